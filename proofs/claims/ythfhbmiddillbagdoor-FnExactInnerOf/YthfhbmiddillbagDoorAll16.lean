/- Proved here: what the parts' methods right and fields answer; all old memory stays (condition: a body is a string). · Proved here: which method of a part is called by its name (closed facts on the program's own table). -/
import Derived.Test.YthfhbmiddillbagDoorAll15
section
namespace Go.Proofs.YthfhbmiddillbagDoor
open Go.ChangeShapes Go.WideShapes Go.ChangeAt Go.RowKit
open Go.ChangeMaps (open_string shut_string)
set_option linter.unusedVariables false

theorem two_cells1 (W : World) (o : Obj) (a b : Int) (t : TypeId) : ∀ j, (h : j < [a, b].length) → ((W.alloc o).alloc (.cells #[.int .i64 a, .int .i64 b] t)).cell? ⟨W.heap.size + 1, j, none⟩ = some (.int .i64 [a, b][j]) := by
  have := two_cells (W.alloc o) a b t
  simpa using this
theorem two_cells2 (W : World) (o o2 : Obj) (a b : Int) (t : TypeId) : ∀ j, (h : j < [a, b].length) → (((W.alloc o).alloc o2).alloc (.cells #[.int .i64 a, .int .i64 b] t)).cell? ⟨W.heap.size + 2, j, none⟩ = some (.int .i64 [a, b][j]) := by
  have := two_cells ((W.alloc o).alloc o2) a b t
  simpa using this

set_option maxHeartbeats 1000000 in
theorem tcpRight_any (a b q k f : Int) (s : ByteArray) (w : World) :
    Calls Tryd.prog 139 #[.agg #[.int .i64 a, .int .i64 b, .int .i64 q, .int .i64 k, .int .i64 f, .string s]] w fun e w' => e = .returned (.bool (allW [a, b] && allA [q, k] && flagB f)) ∧ Below w.heap.size w w' := by
  have HB := fun o => hidS ((Below.refl w.heap.size w).alloc (Nat.le_refl _) o)
  have HB2 := fun o o2 => hidS (((Below.refl w.heap.size w).alloc (Nat.le_refl _) o).alloc (by simp) o2)
  have HB3 := fun o o2 o3 => hidS ((((Below.refl w.heap.size w).alloc (Nat.le_refl _) o).alloc (by simp) o2).alloc (by simp; omega) o3)
  cases h1 : allW [a, b]
  · go_enter Tryd.func139, Tryd.ntmps139
    go_wp2_with fail
    refine (areWords_any (w.heap.size + 1) [a, b] _ (two_cells1 _ _ _ _ _) (by simp)).mono ?_
    rintro e w1 ⟨rfl, rfl⟩
    rw [h1]
    go_wp2
    go_ret
    exact ⟨rfl, (HB2 _ _).out⟩
  cases h2 : allA [q, k]
  · go_enter Tryd.func139, Tryd.ntmps139
    go_wp2_with fail
    refine (areWords_any (w.heap.size + 1) [a, b] _ (two_cells1 _ _ _ _ _) (by simp)).mono ?_
    rintro e w1 ⟨rfl, rfl⟩
    rw [h1]
    go_wp2_with fail
    refine (areAddrs_any (w.heap.size + 2) [q, k] _ (two_cells2 _ _ _ _ _ _) (by simp)).mono ?_
    rintro e w1 ⟨rfl, rfl⟩
    rw [h2]
    go_wp2
    go_ret
    exact ⟨rfl, (HB3 _ _ _).out⟩
  by_cases h3 : 0 ≤ f
  · by_cases h4 : f ≤ 63
    · have e : Hid (flagB f = true) := flagB_iff.2 ⟨h3, h4⟩
      go_enter Tryd.func139, Tryd.ntmps139
      go_wp2_with fail
      refine (areWords_any (w.heap.size + 1) [a, b] _ (two_cells1 _ _ _ _ _) (by simp)).mono ?_
      rintro e w1 ⟨rfl, rfl⟩
      rw [h1]
      go_wp2_with fail
      refine (areAddrs_any (w.heap.size + 2) [q, k] _ (two_cells2 _ _ _ _ _ _) (by simp)).mono ?_
      rintro e w1 ⟨rfl, rfl⟩
      rw [h2]
      go_wp2
      go_ret
      exact ⟨by rw [e.out]; rfl, (HB3 _ _ _).out⟩
    · have e : Hid (flagB f = false) := by show _ = _; simp [flagB]; omega
      have h4' : decide (f ≤ 63) = false := by simpa using h4
      go_enter Tryd.func139, Tryd.ntmps139
      go_wp2_with fail
      refine (areWords_any (w.heap.size + 1) [a, b] _ (two_cells1 _ _ _ _ _) (by simp)).mono ?_
      rintro e w1 ⟨rfl, rfl⟩
      rw [h1]
      go_wp2_with fail
      refine (areAddrs_any (w.heap.size + 2) [q, k] _ (two_cells2 _ _ _ _ _ _) (by simp)).mono ?_
      rintro e w1 ⟨rfl, rfl⟩
      rw [h2]
      go_wp2
      go_ret
      exact ⟨by rw [e.out]; rfl, (HB3 _ _ _).out⟩
  · have e : Hid (flagB f = false) := by show _ = _; simp [flagB]; omega
    have h3' : decide (0 ≤ f) = false := by simpa using h3
    go_enter Tryd.func139, Tryd.ntmps139
    go_wp2_with fail
    refine (areWords_any (w.heap.size + 1) [a, b] _ (two_cells1 _ _ _ _ _) (by simp)).mono ?_
    rintro e w1 ⟨rfl, rfl⟩
    rw [h1]
    go_wp2_with fail
    refine (areAddrs_any (w.heap.size + 2) [q, k] _ (two_cells2 _ _ _ _ _ _) (by simp)).mono ?_
    rintro e w1 ⟨rfl, rfl⟩
    rw [h2]
    go_wp2
    go_ret
    exact ⟨by rw [e.out]; rfl, (HB3 _ _ _).out⟩

theorem udpRight_any (a b : Int) (s : ByteArray) (w : World) :
    Calls Tryd.prog 142 #[.agg #[.int .i64 a, .int .i64 b, .string s]] w fun e w' => e = .returned (.bool (allW [a, b])) ∧ Below w.heap.size w w' := by
  have HB2 := fun o o2 => hidS (((Below.refl w.heap.size w).alloc (Nat.le_refl _) o).alloc (by simp) o2)
  go_enter Tryd.func142, Tryd.ntmps142
  go_wp2_with fail
  refine (areWords_any (w.heap.size + 1) [a, b] _ (two_cells1 _ _ _ _ _) (by simp)).mono ?_
  rintro e w1 ⟨rfl, rfl⟩
  go_wp2
  go_ret
  exact ⟨rfl, (HB2 _ _).out⟩

theorem errRight_any (s : ByteArray) (w : World) (hs : s.size ≤ maxLen) :
    Calls Tryd.prog 145 #[.agg #[.string s]] w fun e w' => e = .returned (.bool (decide (28 ≤ s.size))) ∧ Below w.heap.size w w' := by
  have hs' : s.size ≤ 2 ^ 63 - 1 := hs
  have HB := fun o => hidS ((Below.refl w.heap.size w).alloc (Nat.le_refl _) o)
  have e : Hid (decide ((28 : Int) ≤ (s.size : Int)) = decide (28 ≤ s.size)) := by show _ = _; rw [decide_eq_decide]; omega
  go_enter Tryd.func145, Tryd.ntmps145
  go_wp2
  go_ret
  exact ⟨by rw [← e.out]; rfl, (HB _).out⟩

theorem echoRight_any (c a q : Int) (s : ByteArray) (w : World) :
    Calls Tryd.prog 148 #[.agg #[.int .i64 c, .int .i64 a, .int .i64 q, .string s]] w fun e w' => e = .returned (.bool ((decide (c = 8) || decide (c = 0)) && allW [a, q])) ∧ Below w.heap.size w w' := by
  have HB := fun o => hidS ((Below.refl w.heap.size w).alloc (Nat.le_refl _) o)
  have HB2 := fun o o2 => hidS (((Below.refl w.heap.size w).alloc (Nat.le_refl _) o).alloc (by simp) o2)
  by_cases h8 : c = 8
  · subst h8
    go_enter Tryd.func148, Tryd.ntmps148
    go_wp2_with fail
    refine (areWords_any (w.heap.size + 1) [a, q] _ (two_cells1 _ _ _ _ _) (by simp)).mono ?_
    rintro e w1 ⟨rfl, rfl⟩
    go_wp2
    go_ret
    exact ⟨by simp, (HB2 _ _).out⟩
  · by_cases h0 : c = 0
    · subst h0
      go_enter Tryd.func148, Tryd.ntmps148
      go_wp2_with fail
      refine (areWords_any (w.heap.size + 1) [a, q] _ (two_cells1 _ _ _ _ _) (by simp)).mono ?_
      rintro e w1 ⟨rfl, rfl⟩
      go_wp2
      go_ret
      exact ⟨by simp, (HB2 _ _).out⟩
    · have h8' : (c == 8) = false := by simpa using h8
      have h0' : (c == 0) = false := by simpa using h0
      go_enter Tryd.func148, Tryd.ntmps148
      go_wp2
      go_ret
      exact ⟨by simp [h8, h0], (HB _).out⟩

theorem tcpFields_any (a b q k f : Int) (s : ByteArray) (w : World) :
    Calls Tryd.prog 138 #[.agg #[.int .i64 a, .int .i64 b, .int .i64 q, .int .i64 k, .int .i64 f, .string s]] w fun e w' => e = .returned (.agg #[.int .i64 0, .int .i64 0, .int .i64 6, .int .i64 a, .int .i64 b, .int .i64 0, .int .i64 f, .int .i64 q, .int .i64 k, .string s]) ∧ Below w.heap.size w w' := by
  go_enter Tryd.func138, Tryd.ntmps138
  go_wp2
  go_returns
  exact ⟨rfl, by go_grown⟩
theorem udpFields_any (a b : Int) (s : ByteArray) (w : World) :
    Calls Tryd.prog 141 #[.agg #[.int .i64 a, .int .i64 b, .string s]] w fun e w' => e = .returned (.agg #[.int .i64 0, .int .i64 0, .int .i64 17, .int .i64 a, .int .i64 b, .int .i64 0, .int .i64 0, .int .i64 0, .int .i64 0, .string s]) ∧ Below w.heap.size w w' := by
  go_enter Tryd.func141, Tryd.ntmps141
  go_wp2
  go_returns
  exact ⟨rfl, by go_grown⟩
theorem errFields_any (s : ByteArray) (w : World) :
    Calls Tryd.prog 144 #[.agg #[.string s]] w fun e w' => e = .returned (.agg #[.int .i64 0, .int .i64 0, .int .i64 1, .int .i64 0, .int .i64 0, .int .i64 3, .int .i64 0, .int .i64 0, .int .i64 0, .string s]) ∧ Below w.heap.size w w' := by
  go_enter Tryd.func144, Tryd.ntmps144
  go_wp2
  go_returns
  exact ⟨rfl, by go_grown⟩
theorem echoFields_any (c a q : Int) (s : ByteArray) (w : World) :
    Calls Tryd.prog 147 #[.agg #[.int .i64 c, .int .i64 a, .int .i64 q, .string s]] w fun e w' => e = .returned (.agg #[.int .i64 0, .int .i64 0, .int .i64 1, .int .i64 a, .int .i64 0, .int .i64 c, .int .i64 0, .int .i64 q, .int .i64 0, .string s]) ∧ Below w.heap.size w w' := by
  go_enter Tryd.func147, Tryd.ntmps147
  go_wp2
  go_returns
  exact ⟨rfl, by go_grown⟩
end Go.Proofs.YthfhbmiddillbagDoor
end

section
namespace Go.Proofs.YthfhbmiddillbagDoor
open Go.ChangeShapes Go.WideShapes Go.ChangeAt Go.RowKit
set_option linter.unusedVariables false

theorem meth_tcp_right (v : Value) (W : World) : (method 297 106 v "loop.example/g00542/impl.right").run Tryd.prog W = .ok (139, v) W := by kernel_rfl
theorem meth_tcp_fields (v : Value) (W : World) : (method 297 106 v "loop.example/g00542/impl.fields").run Tryd.prog W = .ok (138, v) W := by kernel_rfl
theorem meth_udp_right (v : Value) (W : World) : (method 297 108 v "loop.example/g00542/impl.right").run Tryd.prog W = .ok (142, v) W := by kernel_rfl
theorem meth_udp_fields (v : Value) (W : World) : (method 297 108 v "loop.example/g00542/impl.fields").run Tryd.prog W = .ok (141, v) W := by kernel_rfl
theorem meth_err_right (v : Value) (W : World) : (method 297 110 v "loop.example/g00542/impl.right").run Tryd.prog W = .ok (145, v) W := by kernel_rfl
theorem meth_err_fields (v : Value) (W : World) : (method 297 110 v "loop.example/g00542/impl.fields").run Tryd.prog W = .ok (144, v) W := by kernel_rfl
theorem meth_echo_right (v : Value) (W : World) : (method 297 112 v "loop.example/g00542/impl.right").run Tryd.prog W = .ok (148, v) W := by kernel_rfl
theorem meth_echo_fields (v : Value) (W : World) : (method 297 112 v "loop.example/g00542/impl.fields").run Tryd.prog W = .ok (147, v) W := by kernel_rfl
theorem enter_tcp_right (v : Value) (W : World) : (callFunc 139 #[v]).run Tryd.prog W = .ok (.enter 139 #[v]) W := by kernel_rfl
theorem enter_tcp_fields (v : Value) (W : World) : (callFunc 138 #[v]).run Tryd.prog W = .ok (.enter 138 #[v]) W := by kernel_rfl
theorem enter_udp_right (v : Value) (W : World) : (callFunc 142 #[v]).run Tryd.prog W = .ok (.enter 142 #[v]) W := by kernel_rfl
theorem enter_udp_fields (v : Value) (W : World) : (callFunc 141 #[v]).run Tryd.prog W = .ok (.enter 141 #[v]) W := by kernel_rfl
theorem enter_err_right (v : Value) (W : World) : (callFunc 145 #[v]).run Tryd.prog W = .ok (.enter 145 #[v]) W := by kernel_rfl
theorem enter_err_fields (v : Value) (W : World) : (callFunc 144 #[v]).run Tryd.prog W = .ok (.enter 144 #[v]) W := by kernel_rfl
theorem enter_echo_right (v : Value) (W : World) : (callFunc 148 #[v]).run Tryd.prog W = .ok (.enter 148 #[v]) W := by kernel_rfl
theorem enter_echo_fields (v : Value) (W : World) : (callFunc 147 #[v]).run Tryd.prog W = .ok (.enter 147 #[v]) W := by kernel_rfl
end Go.Proofs.YthfhbmiddillbagDoor
end
