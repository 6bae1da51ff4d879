/- Proved here: impl.partOf answers what stands behind a packet's head, by its Proto; all old memory stays (no conditions). · Proved here: impl.areAddrs answers whether all of a row are addresses, and leaves memory alone (condition: at most 1000 of them). · Proved here: two cells of a new block (no program of its own). · Proved here: nothing of a program: what a right tuple is, a packet's tuple, a tuple turned round, which is ahead, as plain functions. · Proved here: impl.isEcho answers whether a Kind is an ask or a reply, and leaves memory alone (no conditions). · Proved here: what the parts' methods right and fields answer; all old memory stays (condition: a body is a string). -/
import Derived.Test.YtokjhfgbnpdfnaaDoorAll2
import Derived.Test.YtokjhfgbnpdfnaaDoorAll1
import Derived.Test.YtokjhfgbnpdfnaaDoorAll18
section
namespace Go.Proofs.YtokjhfgbnpdfnaaDoor
open Go.ChangeShapes Go.WideShapes Go.ChangeAt Go.RowKit
open Go.ChangeMaps (open_string shut_string)
set_option linter.unusedVariables false

/-- what partOf answers -/
def tcpV (p : Pk) : Value := .iface 128 (.agg #[.int .i64 p.a, .int .i64 p.b, .int .i64 p.seq, .int .i64 p.ack, .int .i64 p.flags, .string p.body])
def udpV (p : Pk) : Value := .iface 130 (.agg #[.int .i64 p.a, .int .i64 p.b, .string p.body])
def errV (p : Pk) : Value := .iface 132 (.agg #[.string p.body])
def echoV (p : Pk) : Value := .iface 134 (.agg #[.int .i64 p.kind, .int .i64 p.a, .int .i64 p.seq, .string p.body])

theorem partOf_tcp (p : Pk) (w : World) (h6 : p.proto = 6) :
    Calls Tryd.prog 62 #[.agg #[.int .i64 p.src, .int .i64 p.dst, .int .i64 p.proto, .int .i64 p.a, .int .i64 p.b, .int .i64 p.kind, .int .i64 p.flags, .int .i64 p.seq, .int .i64 p.ack, .string p.body]] w fun e w' => e = .returned (tcpV p) ∧ Below w.heap.size w w' := by
  have HB := fun o => hidS ((Below.refl w.heap.size w).alloc (Nat.le_refl _) o)
  go_enter Tryd.func62, Tryd.ntmps62
  go_wp2
  go_ret
  exact ⟨rfl, (HB _).out⟩
theorem partOf_udp (p : Pk) (w : World) (h17 : p.proto = 17) :
    Calls Tryd.prog 62 #[.agg #[.int .i64 p.src, .int .i64 p.dst, .int .i64 p.proto, .int .i64 p.a, .int .i64 p.b, .int .i64 p.kind, .int .i64 p.flags, .int .i64 p.seq, .int .i64 p.ack, .string p.body]] w fun e w' => e = .returned (udpV p) ∧ Below w.heap.size w w' := by
  have HB := fun o => hidS ((Below.refl w.heap.size w).alloc (Nat.le_refl _) o)
  go_enter Tryd.func62, Tryd.ntmps62
  go_wp2
  go_ret
  exact ⟨rfl, (HB _).out⟩
theorem partOf_err (p : Pk) (w : World) (h1 : p.proto = 1) (h3 : p.kind = 3) :
    Calls Tryd.prog 62 #[.agg #[.int .i64 p.src, .int .i64 p.dst, .int .i64 p.proto, .int .i64 p.a, .int .i64 p.b, .int .i64 p.kind, .int .i64 p.flags, .int .i64 p.seq, .int .i64 p.ack, .string p.body]] w fun e w' => e = .returned (errV p) ∧ Below w.heap.size w w' := by
  have HB := fun o => hidS ((Below.refl w.heap.size w).alloc (Nat.le_refl _) o)
  go_enter Tryd.func62, Tryd.ntmps62
  go_wp2
  go_ret
  exact ⟨rfl, (HB _).out⟩
theorem partOf_echo (p : Pk) (w : World) (h1 : p.proto = 1) (h3 : p.kind ≠ 3) :
    Calls Tryd.prog 62 #[.agg #[.int .i64 p.src, .int .i64 p.dst, .int .i64 p.proto, .int .i64 p.a, .int .i64 p.b, .int .i64 p.kind, .int .i64 p.flags, .int .i64 p.seq, .int .i64 p.ack, .string p.body]] w fun e w' => e = .returned (echoV p) ∧ Below w.heap.size w w' := by
  have HB := fun o => hidS ((Below.refl w.heap.size w).alloc (Nat.le_refl _) o)
  go_enter Tryd.func62, Tryd.ntmps62
  go_wp2
  go_ret
  exact ⟨rfl, (HB _).out⟩
theorem partOf_none (p : Pk) (w : World) (h6 : p.proto ≠ 6) (h17 : p.proto ≠ 17) (h1 : p.proto ≠ 1) :
    Calls Tryd.prog 62 #[.agg #[.int .i64 p.src, .int .i64 p.dst, .int .i64 p.proto, .int .i64 p.a, .int .i64 p.b, .int .i64 p.kind, .int .i64 p.flags, .int .i64 p.seq, .int .i64 p.ack, .string p.body]] w fun e w' => e = .returned (.nilIface) ∧ Below w.heap.size w w' := by
  have HB := fun o => hidS ((Below.refl w.heap.size w).alloc (Nat.le_refl _) o)
  go_enter Tryd.func62, Tryd.ntmps62
  go_wp2
  go_ret
  exact ⟨rfl, (HB _).out⟩
end Go.Proofs.YtokjhfgbnpdfnaaDoor
end

section
namespace Go.Proofs.YtokjhfgbnpdfnaaDoor
open Go.ChangeShapes Go.WideShapes Go.ChangeAt Go.RowKit
open Go.ChangeMaps (open_string shut_string)
set_option linter.unusedVariables false

/-- all of them are addresses -/
def allA (zs : List Int) : Bool := zs.all addrB
theorem allA_take_succ (zs : List Int) (k : Nat) (h : k < zs.length) : allA (zs.take (k + 1)) = (allA (zs.take k) && addrB zs[k]) := by
  unfold allA; rw [List.take_succ_eq_append_getElem h, List.all_append]; simp
theorem allA_bad (zs : List Int) (k : Nat) (h : k < zs.length) (hb : addrB zs[k] = false) : allA zs = false := by
  cases e : allA zs
  · rfl
  · have := List.all_eq_true.1 e zs[k] (List.getElem_mem h); rw [hb] at this; cases this
set_option maxHeartbeats 400000 in
theorem areAddrs_any (g : Nat) (zs : List Int) (w : World) (hc : ∀ j, (h : j < zs.length) → w.cell? ⟨g, j, none⟩ = some (.int .i64 zs[j])) (hl : zs.length ≤ 1000) :
    Calls Tryd.prog 55 #[.slice (some ⟨g, 0, none⟩) zs.length zs.length] w fun e w' => e = .returned (.bool (allA zs)) ∧ w' = w := by
  have HC := hidS hc
  clear hc
  go_enter Tryd.func55, Tryd.ntmps55
  go_wp2
  go_loop [7] (fun i => ∃ k : Nat, k ≤ zs.length ∧ i = .int .i64 k ∧ Hid (allA (zs.take k) = true)) (fun i => zs.length - (intOf i).toNat)
  case atStart => exact ⟨0, by omega, rfl, rfl⟩
  case round =>
    obtain ⟨k, hk, rfl, hX⟩ := hrel
    by_cases h : k < zs.length
    · have h' : (k : Int) < (zs.length : Int) := by omega
      have hck := HC.out k h
      have hA := hidS (allA_bad zs k h)
      have hB : Hid (addrB zs[k] = true → allA (zs.take (k + 1)) = true) := by intro q; rw [allA_take_succ zs k h, hX.out, q]; rfl
      generalize zs[k] = z at *
      clear hX
      by_cases h1 : z < 0
      · have hE : Hid (allA zs = false) := hA.out (by simp [addrB]; omega)
        clear hA hB
        go_wp2
        go_ret
        exact ⟨by rw [hE.out]; rfl, rfl⟩
      · by_cases h2 : 4294967295 < z
        · have hE : Hid (allA zs = false) := hA.out (by simp [addrB]; omega)
          clear hA hB
          go_wp2
          go_ret
          exact ⟨by rw [hE.out]; rfl, rfl⟩
        · have hE := hidS (hB.out (by simp [addrB]; omega))
          clear hA hB
          go_wp2
          go_round
          case rel => exact ⟨k + 1, by omega, by go_num, hE⟩
          case measure => simp [intOf]; omega
    · have hE : Hid (allA zs = true) := by have := hX.out; rw [List.take_of_length_le (by omega)] at this; exact this
      clear hX
      go_wp2
      go_ret
      exact ⟨by rw [hE.out]; rfl, rfl⟩
end Go.Proofs.YtokjhfgbnpdfnaaDoor
end

section
namespace Go.Proofs.YtokjhfgbnpdfnaaDoor
open Go.ChangeShapes Go.WideShapes Go.ChangeAt Go.RowKit
set_option linter.unusedVariables false

theorem two_cells1 (W : World) (o : Obj) (a b : Int) (t : TypeId) : ∀ j, (h : j < [a, b].length) → ((W.alloc o).alloc (.cells #[.int .i64 a, .int .i64 b] t)).cell? ⟨W.heap.size + 1, j, none⟩ = some (.int .i64 [a, b][j]) := by
  have := two_cells (W.alloc o) a b t
  simpa using this
theorem two_cells2 (W : World) (o o2 : Obj) (a b : Int) (t : TypeId) : ∀ j, (h : j < [a, b].length) → (((W.alloc o).alloc o2).alloc (.cells #[.int .i64 a, .int .i64 b] t)).cell? ⟨W.heap.size + 2, j, none⟩ = some (.int .i64 [a, b][j]) := by
  have := two_cells ((W.alloc o).alloc o2) a b t
  simpa using this
end Go.Proofs.YtokjhfgbnpdfnaaDoor
end

section
namespace Go.Proofs.YtokjhfgbnpdfnaaDoor
set_option linter.unusedVariables false

/-- a tuple -/
structure Tp where
  proto : Int
  src : Int
  sport : Int
  dst : Int
  dport : Int
  kind : Int
def zeroTp : Tp := ⟨0, 0, 0, 0, 0, 0⟩
/-- an ask or a reply -/
def echoB (k : Int) : Bool := decide (k = 8) || decide (k = 0)
/-- is it right? -/
def rightT (t : Tp) : Bool := addrB t.src && addrB t.dst && wordB t.sport && wordB t.dport &&
  (if t.proto = 1 then echoB t.kind && decide (t.sport = t.dport) else (decide (t.proto = 6) || decide (t.proto = 17)) && decide (t.kind = 0))
/-- does it tell an error? -/
def errorB (p : Pk) : Bool := p.proto == 1 && p.kind == 3
/-- a right packet's tuple -/
def ofP (p : Pk) : Tp := ⟨p.proto, p.src, p.a, p.dst, if p.proto = 1 then p.a else p.b, p.kind⟩
def ofAns (p : Pk) : Tp := if (rightB p && !errorB p) = true then ofP p else zeroTp
/-- turned round -/
def invT (t : Tp) : Tp := ⟨t.proto, t.dst, t.dport, t.src, t.sport, if t.proto = 1 then 8 - t.kind else 0⟩
def invAns (t : Tp) : Tp := if rightT t = true then invT t else zeroTp
/-- is a ahead of b? -/
def lessT (a b : Tp) : Bool :=
  if a.proto = b.proto then if a.src = b.src then if a.sport = b.sport then if a.dst = b.dst then if a.dport = b.dport then decide (a.kind < b.kind) else decide (a.dport < b.dport) else decide (a.dst < b.dst) else decide (a.sport < b.sport) else decide (a.src < b.src) else decide (a.proto < b.proto)
def lessAns (a b : Tp) : Bool := rightT a && rightT b && lessT a b
/-- a packet with a tuple's ends -/
def withT (p : Pk) (t : Tp) : Pk := ⟨t.src, t.dst, p.proto, t.sport, if p.proto = 1 then p.b else t.dport, p.kind, p.flags, p.seq, p.ack, p.body⟩
def withB (p : Pk) (t : Tp) : Bool := rightB p && !errorB p && rightT t && decide (t.proto = p.proto) && decide (t.kind = p.kind)
end Go.Proofs.YtokjhfgbnpdfnaaDoor
end

section
namespace Go.Proofs.YtokjhfgbnpdfnaaDoor
open Go.ChangeShapes Go.WideShapes Go.ChangeAt Go.RowKit
set_option linter.unusedVariables false

theorem isEcho_any (k : Int) (w : World) :
    Calls Tryd.prog 134 #[.int .i64 k] w fun e w' => e = .returned (.bool (echoB k)) ∧ w' = w := by
  by_cases h8 : k = 8
  · subst h8
    go_enter Tryd.func134, Tryd.ntmps134
    go_wp2
    go_ret
    exact ⟨rfl, rfl⟩
  · have h8' : (k == 8) = false := beq_eq_false_iff_ne.2 h8
    have e : Hid (echoB k = (k == 0)) := by show _ = _; unfold echoB; rw [decide_eq_false h8]; simp [BEq.beq]
    go_enter Tryd.func134, Tryd.ntmps134
    go_wp2
    go_ret
    exact ⟨by rw [e.out]; rfl, rfl⟩
end Go.Proofs.YtokjhfgbnpdfnaaDoor
end

section
namespace Go.Proofs.YtokjhfgbnpdfnaaDoor
open Go.ChangeShapes Go.WideShapes Go.ChangeAt Go.RowKit
open Go.ChangeMaps (open_string shut_string)
set_option linter.unusedVariables false

set_option maxHeartbeats 1000000 in
theorem tcpRight_any (a b q k f : Int) (s : ByteArray) (w : World) :
    Calls Tryd.prog 124 #[.agg #[.int .i64 a, .int .i64 b, .int .i64 q, .int .i64 k, .int .i64 f, .string s]] w fun e w' => e = .returned (.bool (allW [a, b] && allA [q, k] && flagB f)) ∧ Below w.heap.size w w' := by
  have HB := fun o => hidS ((Below.refl w.heap.size w).alloc (Nat.le_refl _) o)
  have HB2 := fun o o2 => hidS (((Below.refl w.heap.size w).alloc (Nat.le_refl _) o).alloc (by simp) o2)
  have HB3 := fun o o2 o3 => hidS ((((Below.refl w.heap.size w).alloc (Nat.le_refl _) o).alloc (by simp) o2).alloc (by simp; omega) o3)
  cases h1 : allW [a, b]
  · go_enter Tryd.func124, Tryd.ntmps124
    go_wp2_with fail
    refine (areWords_any (w.heap.size + 1) [a, b] _ (two_cells1 _ _ _ _ _) (by simp)).mono ?_
    rintro e w1 ⟨rfl, rfl⟩
    rw [h1]
    go_wp2
    go_ret
    exact ⟨rfl, (HB2 _ _).out⟩
  cases h2 : allA [q, k]
  · go_enter Tryd.func124, Tryd.ntmps124
    go_wp2_with fail
    refine (areWords_any (w.heap.size + 1) [a, b] _ (two_cells1 _ _ _ _ _) (by simp)).mono ?_
    rintro e w1 ⟨rfl, rfl⟩
    rw [h1]
    go_wp2_with fail
    refine (areAddrs_any (w.heap.size + 2) [q, k] _ (two_cells2 _ _ _ _ _ _) (by simp)).mono ?_
    rintro e w1 ⟨rfl, rfl⟩
    rw [h2]
    go_wp2
    go_ret
    exact ⟨rfl, (HB3 _ _ _).out⟩
  by_cases h3 : 0 ≤ f
  · by_cases h4 : f ≤ 63
    · have e : Hid (flagB f = true) := flagB_iff.2 ⟨h3, h4⟩
      go_enter Tryd.func124, Tryd.ntmps124
      go_wp2_with fail
      refine (areWords_any (w.heap.size + 1) [a, b] _ (two_cells1 _ _ _ _ _) (by simp)).mono ?_
      rintro e w1 ⟨rfl, rfl⟩
      rw [h1]
      go_wp2_with fail
      refine (areAddrs_any (w.heap.size + 2) [q, k] _ (two_cells2 _ _ _ _ _ _) (by simp)).mono ?_
      rintro e w1 ⟨rfl, rfl⟩
      rw [h2]
      go_wp2
      go_ret
      exact ⟨by rw [e.out]; rfl, (HB3 _ _ _).out⟩
    · have e : Hid (flagB f = false) := by show _ = _; simp [flagB]; omega
      have h4' : decide (f ≤ 63) = false := by simpa using h4
      go_enter Tryd.func124, Tryd.ntmps124
      go_wp2_with fail
      refine (areWords_any (w.heap.size + 1) [a, b] _ (two_cells1 _ _ _ _ _) (by simp)).mono ?_
      rintro e w1 ⟨rfl, rfl⟩
      rw [h1]
      go_wp2_with fail
      refine (areAddrs_any (w.heap.size + 2) [q, k] _ (two_cells2 _ _ _ _ _ _) (by simp)).mono ?_
      rintro e w1 ⟨rfl, rfl⟩
      rw [h2]
      go_wp2
      go_ret
      exact ⟨by rw [e.out]; rfl, (HB3 _ _ _).out⟩
  · have e : Hid (flagB f = false) := by show _ = _; simp [flagB]; omega
    have h3' : decide (0 ≤ f) = false := by simpa using h3
    go_enter Tryd.func124, Tryd.ntmps124
    go_wp2_with fail
    refine (areWords_any (w.heap.size + 1) [a, b] _ (two_cells1 _ _ _ _ _) (by simp)).mono ?_
    rintro e w1 ⟨rfl, rfl⟩
    rw [h1]
    go_wp2_with fail
    refine (areAddrs_any (w.heap.size + 2) [q, k] _ (two_cells2 _ _ _ _ _ _) (by simp)).mono ?_
    rintro e w1 ⟨rfl, rfl⟩
    rw [h2]
    go_wp2
    go_ret
    exact ⟨by rw [e.out]; rfl, (HB3 _ _ _).out⟩

theorem udpRight_any (a b : Int) (s : ByteArray) (w : World) :
    Calls Tryd.prog 127 #[.agg #[.int .i64 a, .int .i64 b, .string s]] w fun e w' => e = .returned (.bool (allW [a, b])) ∧ Below w.heap.size w w' := by
  have HB2 := fun o o2 => hidS (((Below.refl w.heap.size w).alloc (Nat.le_refl _) o).alloc (by simp) o2)
  go_enter Tryd.func127, Tryd.ntmps127
  go_wp2_with fail
  refine (areWords_any (w.heap.size + 1) [a, b] _ (two_cells1 _ _ _ _ _) (by simp)).mono ?_
  rintro e w1 ⟨rfl, rfl⟩
  go_wp2
  go_ret
  exact ⟨rfl, (HB2 _ _).out⟩

theorem errRight_any (s : ByteArray) (w : World) (hs : s.size ≤ maxLen) :
    Calls Tryd.prog 130 #[.agg #[.string s]] w fun e w' => e = .returned (.bool (decide (28 ≤ s.size))) ∧ Below w.heap.size w w' := by
  have hs' : s.size ≤ 2 ^ 63 - 1 := hs
  have HB := fun o => hidS ((Below.refl w.heap.size w).alloc (Nat.le_refl _) o)
  have e : Hid (decide ((28 : Int) ≤ (s.size : Int)) = decide (28 ≤ s.size)) := by show _ = _; rw [decide_eq_decide]; omega
  go_enter Tryd.func130, Tryd.ntmps130
  go_wp2
  go_ret
  exact ⟨by rw [← e.out]; rfl, (HB _).out⟩

theorem echoRight_any (c a q : Int) (s : ByteArray) (w : World) :
    Calls Tryd.prog 133 #[.agg #[.int .i64 c, .int .i64 a, .int .i64 q, .string s]] w fun e w' => e = .returned (.bool ((decide (c = 8) || decide (c = 0)) && allW [a, q])) ∧ Below w.heap.size w w' := by
  have HB := fun o => hidS ((Below.refl w.heap.size w).alloc (Nat.le_refl _) o)
  have HB2 := fun o o2 => hidS (((Below.refl w.heap.size w).alloc (Nat.le_refl _) o).alloc (by simp) o2)
  have HE := hidS (isEcho_any c)
  show Calls Tryd.prog 133 #[.agg #[.int .i64 c, .int .i64 a, .int .i64 q, .string s]] w fun e w' => e = .returned (.bool (echoB c && allW [a, q])) ∧ Below w.heap.size w w'
  cases h : echoB c
  · rw [h] at HE
    go_enter Tryd.func133, Tryd.ntmps133
    go_wp2_with fail
    refine (HE.out _).mono ?_
    rintro _ w1 ⟨rfl, rfl⟩
    go_wp2_with fail
    go_ret
    exact ⟨rfl, (HB _).out⟩
  · rw [h] at HE
    go_enter Tryd.func133, Tryd.ntmps133
    go_wp2_with fail
    refine (HE.out _).mono ?_
    rintro _ w1 ⟨rfl, rfl⟩
    go_wp2_with fail
    refine (areWords_any (w.heap.size + 1) [a, q] _ (two_cells1 _ _ _ _ _) (by simp)).mono ?_
    rintro e w1 ⟨rfl, rfl⟩
    go_wp2
    go_ret
    exact ⟨by simp, (HB2 _ _).out⟩

theorem tcpFields_any (a b q k f : Int) (s : ByteArray) (w : World) :
    Calls Tryd.prog 123 #[.agg #[.int .i64 a, .int .i64 b, .int .i64 q, .int .i64 k, .int .i64 f, .string s]] w fun e w' => e = .returned (.agg #[.int .i64 0, .int .i64 0, .int .i64 6, .int .i64 a, .int .i64 b, .int .i64 0, .int .i64 f, .int .i64 q, .int .i64 k, .string s]) ∧ Below w.heap.size w w' := by
  go_enter Tryd.func123, Tryd.ntmps123
  go_wp2
  go_returns
  exact ⟨rfl, by go_grown⟩
theorem udpFields_any (a b : Int) (s : ByteArray) (w : World) :
    Calls Tryd.prog 126 #[.agg #[.int .i64 a, .int .i64 b, .string s]] w fun e w' => e = .returned (.agg #[.int .i64 0, .int .i64 0, .int .i64 17, .int .i64 a, .int .i64 b, .int .i64 0, .int .i64 0, .int .i64 0, .int .i64 0, .string s]) ∧ Below w.heap.size w w' := by
  go_enter Tryd.func126, Tryd.ntmps126
  go_wp2
  go_returns
  exact ⟨rfl, by go_grown⟩
theorem errFields_any (s : ByteArray) (w : World) :
    Calls Tryd.prog 129 #[.agg #[.string s]] w fun e w' => e = .returned (.agg #[.int .i64 0, .int .i64 0, .int .i64 1, .int .i64 0, .int .i64 0, .int .i64 3, .int .i64 0, .int .i64 0, .int .i64 0, .string s]) ∧ Below w.heap.size w w' := by
  go_enter Tryd.func129, Tryd.ntmps129
  go_wp2
  go_returns
  exact ⟨rfl, by go_grown⟩
theorem echoFields_any (c a q : Int) (s : ByteArray) (w : World) :
    Calls Tryd.prog 132 #[.agg #[.int .i64 c, .int .i64 a, .int .i64 q, .string s]] w fun e w' => e = .returned (.agg #[.int .i64 0, .int .i64 0, .int .i64 1, .int .i64 a, .int .i64 0, .int .i64 c, .int .i64 0, .int .i64 q, .int .i64 0, .string s]) ∧ Below w.heap.size w w' := by
  go_enter Tryd.func132, Tryd.ntmps132
  go_wp2
  go_returns
  exact ⟨rfl, by go_grown⟩
end Go.Proofs.YtokjhfgbnpdfnaaDoor
end
