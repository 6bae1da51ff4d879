/- Proved here: nothing of a program: rows of numbers in memory, read and written. · Proved here: nothing of a program: what a right packet is, and its bytes, as plain functions. · Proved here: nothing of a program: what a right tuple is, a packet's tuple, a tuple turned round, which is ahead, as plain functions. · Proved here: nothing of a program: what a right rule is, a net's head, the first rule that holds, as whom a tuple goes on, as plain functions. -/
import Derived.Test.YtilajoafppplcaaAll1
import Derived.Test.YtilajoafppplcaaAll3
section
namespace Go.Proofs.Ytilajoafppplcaa
open Go.ChangeShapes Go.WideShapes Go.ChangeAt Go.RowKit
set_option linter.unusedVariables false

/-- numbers that can be read from a on -/
def RowZ (a : Option Addr) (zs : List Int) (W : World) : Prop := ∀ j, j < zs.length → ∃ b o, a = some ⟨b, o, none⟩ ∧ b < W.heap.size ∧ W.cell? ⟨b, o + j, none⟩ = some (.int .i64 (zs.getD j 0))
theorem RowZ.later {a : Option Addr} {zs : List Int} {W W' : World} (h : RowZ a zs W) (hb : Below W.heap.size W W') : RowZ a zs W' := fun j hj => by
  obtain ⟨b, o, e, hl, hc⟩ := h j hj
  exact ⟨b, o, e, Nat.lt_of_lt_of_le hl hb.size, (hb.cell (p := ⟨b, o + j, none⟩) hl).trans hc⟩
/-- a row's cells -/
def intCells (zs : List Int) : Array Value := (zs.map (Value.int .i64)).toArray
theorem intCells_size (zs : List Int) : (intCells zs).size = zs.length := by simp [intCells]
theorem intCells_get (zs : List Int) (j : Nat) (h : j < zs.length) : (intCells zs)[j]? = some (.int .i64 (zs.getD j 0)) := by
  simp [intCells, h]
theorem intCells_set (zs : List Int) (k : Nat) (z : Int) : (intCells zs).setIfInBounds k (.int .i64 z) = intCells (zs.set k z) := by
  simp [intCells, List.map_set]
/-- a row that may be written: it lies in one block, from place o on -/
def RowB (b o : Nat) (zs : List Int) (W : World) : Prop := ∃ cs t, W.heap[b]? = some (.cells cs t) ∧ ∀ j, j < zs.length → cs[o + j]? = some (.int .i64 (zs.getD j 0))
theorem RowB.read {b o : Nat} {zs : List Int} {W : World} (h : RowB b o zs W) : RowZ (some ⟨b, o, none⟩) zs W := fun j hj => by
  obtain ⟨cs, t, h1, h2⟩ := h
  exact ⟨b, o, rfl, blk_lt h1, (blk_cell h1 _).trans (h2 j hj)⟩
theorem RowB.lt {b o : Nat} {zs : List Int} {W : World} (h : RowB b o zs W) : b < W.heap.size := by
  obtain ⟨cs, t, h1, h2⟩ := h
  exact blk_lt h1
theorem rowB_new {b : Nat} {zs : List Int} {W : World} {t : TypeId} (h : W.heap[b]? = some (.cells (intCells zs) t)) : RowB b 0 zs W := ⟨_, _, h, fun j hj => by rw [Nat.zero_add]; exact intCells_get zs j hj⟩
theorem RowB.keep {b o : Nat} {zs : List Int} {W W' : World} (h : RowB b o zs W) (e : W'.heap[b]? = W.heap[b]?) : RowB b o zs W' := by
  obtain ⟨cs, t, h1, h2⟩ := h
  exact ⟨cs, t, e.trans h1, h2⟩
theorem RowB.later {b o : Nat} {zs : List Int} {W W' : World} (h : RowB b o zs W) (hb : Below W.heap.size W W') : RowB b o zs W' := h.keep (hb.block b h.lt)
theorem getD_set (zs : List Int) (k j : Nat) (z : Int) (hk : k < zs.length) : (zs.set k z).getD j 0 = if j = k then z else zs.getD j 0 := by
  by_cases e : j = k
  · subst e; simp [hk]
  · rw [if_neg e]; simp [List.getElem?_set_ne (Ne.symm e)]
theorem RowB.set {b o : Nat} {zs : List Int} {W : World} (h : RowB b o zs W) (k : Nat) (z : Int) (hk : k < zs.length) : RowB b o (zs.set k z) (W.setCell ⟨b, o + k, none⟩ (.int .i64 z)) := by
  obtain ⟨cs, t, h1, h2⟩ := h
  refine ⟨cs.setIfInBounds (o + k) (.int .i64 z), t, blk_set h1 (o + k) _, fun j hj => ?_⟩
  have hj' : j < zs.length := by simpa using hj
  rw [getD_set zs k j z hk]
  by_cases e : j = k
  · subst e
    have hlt : o + j < cs.size := (Array.getElem?_eq_some_iff.1 (h2 j hk)).1
    rw [if_pos rfl, Array.getElem?_setIfInBounds_self_of_lt hlt]
  · rw [if_neg e, Array.getElem?_setIfInBounds_ne (by omega)]
    exact h2 j hj'
/-- some made, the rest 0 -/
def partZ (zs : List Int) (k : Nat) : List Int := zs.take k ++ List.replicate (zs.length - k) 0
theorem partZ_len (zs : List Int) (k : Nat) (h : k ≤ zs.length) : (partZ zs k).length = zs.length := by simp [partZ]; omega
theorem partZ_all (zs : List Int) : partZ zs zs.length = zs := by simp [partZ]
theorem partZ_none (zs : List Int) : partZ zs 0 = List.replicate zs.length 0 := by simp [partZ]
theorem partZ_step (zs : List Int) (k : Nat) (h : k < zs.length) : (partZ zs k).set k (zs.getD k 0) = partZ zs (k + 1) := by
  apply List.ext_getElem
  · simp [partZ]; omega
  · intro i h1 h2
    simp only [partZ, List.getElem_set, List.getElem_append, List.length_take]
    by_cases e : k = i
    · subst e
      simp only [if_true]
      rw [dif_pos (by omega)]
      simp [h]
    · rw [if_neg e]
      by_cases hi : i < k
      · rw [dif_pos (by omega), dif_pos (by omega)]; simp
      · rw [dif_neg (by omega), dif_neg (by omega)]; simp
theorem made_ints (n : Nat) : madeCells #[.int .i64 0] n = intCells (List.replicate n 0) := by
  apply Array.ext
  · simp [size_madeCells, intCells]
  · intro i h1 h2
    simp [madeCells, intCells, Nat.mod_one]
/-- of all blocks that are there, this one alone may have turned -/
structure Tch (b : Nat) (w w' : World) : Prop where
  os : w'.os = w.os
  tape : w'.tape = w.tape
  output : w'.output = w.output
  size : w.heap.size ≤ w'.heap.size
  block : ∀ k, k < w.heap.size → k ≠ b → w'.heap[k]? = w.heap[k]?
theorem Tch.refl (b : Nat) (w : World) : Tch b w w := ⟨rfl, rfl, rfl, Nat.le_refl _, fun _ _ _ => rfl⟩
theorem Tch.set {b : Nat} {w w' : World} (h : Tch b w w') (o : Nat) (v : Value) : Tch b w (w'.setCell ⟨b, o, none⟩ v) :=
  ⟨h.os, h.tape, h.output, by simp only [World.setCell, Array.size_modify]; exact h.size, fun k hk hb => (Below.heap_setCell w' ⟨b, o, none⟩ v k hb).trans (h.block k hk hb)⟩
theorem Tch.drew {b : Nat} {w w' : World} (h : Tch b w w') : Tch b w w'.drew := ⟨h.os, h.tape, h.output, h.size, h.block⟩
theorem Tch.below {b B : Nat} {w w' : World} (h : Tch b w w') (hb : B ≤ b) (hB : B ≤ w.heap.size) : Below B w w' := ⟨h.os, h.tape, h.output, h.size, fun k hk => h.block k (by omega) (by omega)⟩
theorem RowB.touch {b c o : Nat} {zs : List Int} {W W' : World} (h : RowB b o zs W) (ht : Tch c W W') (hne : b ≠ c) : RowB b o zs W' := h.keep (ht.block b h.lt hne)
/-- so many numbers from k on -/
def marks (k : Int) (n : Nat) : List Int := (List.range n).map fun i : Nat => k + (i : Int)
theorem marks_len (k : Int) (n : Nat) : (marks k n).length = n := by simp [marks]
theorem marks_get (k : Int) (n j : Nat) (h : j < n) : (marks k n).getD j 0 = k + j := by simp [marks, h]
/-- the first j marked, the rest as they were -/
def markd (zs : List Int) (k : Int) (j : Nat) : List Int := (List.range zs.length).map fun i : Nat => if i < j then k + (i : Int) else zs.getD i 0
theorem markd_len (zs : List Int) (k : Int) (j : Nat) : (markd zs k j).length = zs.length := by simp [markd]
theorem markd_none (zs : List Int) (k : Int) : markd zs k 0 = zs := by
  apply List.ext_getElem
  · simp [markd]
  · intro i h1 h2
    simp [markd, h2]
theorem markd_all (zs : List Int) (k : Int) : markd zs k zs.length = marks k zs.length := by
  apply List.ext_getElem
  · simp [markd, marks]
  · intro i h1 h2
    have : i < zs.length := by simpa [markd] using h1
    simp [markd, marks, this]
theorem markd_step (zs : List Int) (k : Int) (j : Nat) (h : j < zs.length) : (markd zs k j).set j (k + j) = markd zs k (j + 1) := by
  apply List.ext_getElem
  · simp [markd]
  · intro i h1 h2
    have hi : i < zs.length := by simpa [markd] using h2
    simp only [List.getElem_set, markd, List.getElem_map, List.getElem_range]
    by_cases e : j = i
    · subst e; simp
    · rw [if_neg e]
      by_cases e3 : i < j
      · rw [if_pos e3, if_pos (by omega)]
      · rw [if_neg e3, if_neg (by omega)]
end Go.Proofs.Ytilajoafppplcaa
end

section
namespace Go.Proofs.Ytilajoafppplcaa
set_option linter.unusedVariables false

/-- a packet -/
structure Pk where
  src : Int
  dst : Int
  proto : Int
  a : Int
  b : Int
  kind : Int
  flags : Int
  seq : Int
  ack : Int
  body : ByteArray
def zeroPk : Pk := ⟨0, 0, 0, 0, 0, 0, 0, 0, 0, ⟨#[]⟩⟩
/-- an address -/
def addrB (z : Int) : Bool := decide (0 ≤ z) && decide (z ≤ 4294967295)
theorem addrB_iff {z : Int} : addrB z = true ↔ 0 ≤ z ∧ z ≤ 4294967295 := by simp [addrB]
/-- flags -/
def flagB (z : Int) : Bool := decide (0 ≤ z) && decide (z ≤ 63)
theorem flagB_iff {z : Int} : flagB z = true ↔ 0 ≤ z ∧ z ≤ 63 := by simp [flagB]
def tcpB (p : Pk) : Bool := wordB p.a && wordB p.b && decide (p.kind = 0) && flagB p.flags && addrB p.seq && addrB p.ack
def udpB (p : Pk) : Bool := wordB p.a && wordB p.b && decide (p.kind = 0) && decide (p.flags = 0) && decide (p.seq = 0) && decide (p.ack = 0)
def pingB (p : Pk) : Bool := decide (p.b = 0) && decide (p.flags = 0) && decide (p.ack = 0) &&
  (if p.kind = 3 then decide (p.a = 0) && decide (p.seq = 0) && decide (28 ≤ p.body.size) else (decide (p.kind = 8) || decide (p.kind = 0)) && wordB p.a && wordB p.seq)
/-- is it right? -/
def rightB (p : Pk) : Bool := addrB p.src && addrB p.dst && decide (p.body.size ≤ 100) &&
  (if p.proto = 6 then tcpB p else if p.proto = 17 then udpB p else if p.proto = 1 then pingB p else false)
end Go.Proofs.Ytilajoafppplcaa
end

section
namespace Go.Proofs.Ytilajoafppplcaa
set_option linter.unusedVariables false

/-- a tuple -/
structure Tp where
  proto : Int
  src : Int
  sport : Int
  dst : Int
  dport : Int
  kind : Int
def zeroTp : Tp := ⟨0, 0, 0, 0, 0, 0⟩
/-- an ask or a reply -/
def echoB (k : Int) : Bool := decide (k = 8) || decide (k = 0)
/-- is it right? -/
def rightT (t : Tp) : Bool := addrB t.src && addrB t.dst && wordB t.sport && wordB t.dport &&
  (if t.proto = 1 then echoB t.kind && decide (t.sport = t.dport) else (decide (t.proto = 6) || decide (t.proto = 17)) && decide (t.kind = 0))
/-- does it tell an error? -/
def errorB (p : Pk) : Bool := p.proto == 1 && p.kind == 3
/-- a right packet's tuple -/
def ofP (p : Pk) : Tp := ⟨p.proto, p.src, p.a, p.dst, if p.proto = 1 then p.a else p.b, p.kind⟩
def ofAns (p : Pk) : Tp := if (rightB p && !errorB p) = true then ofP p else zeroTp
/-- turned round -/
def invT (t : Tp) : Tp := ⟨t.proto, t.dst, t.dport, t.src, t.sport, if t.proto = 1 then 8 - t.kind else 0⟩
def invAns (t : Tp) : Tp := if rightT t = true then invT t else zeroTp
/-- is a ahead of b? -/
def lessT (a b : Tp) : Bool :=
  if a.proto = b.proto then if a.src = b.src then if a.sport = b.sport then if a.dst = b.dst then if a.dport = b.dport then decide (a.kind < b.kind) else decide (a.dport < b.dport) else decide (a.dst < b.dst) else decide (a.sport < b.sport) else decide (a.src < b.src) else decide (a.proto < b.proto)
def lessAns (a b : Tp) : Bool := rightT a && rightT b && lessT a b
/-- a packet with a tuple's ends -/
def withT (p : Pk) (t : Tp) : Pk := ⟨t.src, t.dst, p.proto, t.sport, if p.proto = 1 then p.b else t.dport, p.kind, p.flags, p.seq, p.ack, p.body⟩
def withB (p : Pk) (t : Tp) : Bool := rightB p && !errorB p && rightT t && decide (t.proto = p.proto) && decide (t.kind = p.kind)
end Go.Proofs.Ytilajoafppplcaa
end

section
namespace Go.Proofs.Ytilajoafppplcaa
set_option linter.unusedVariables false

/-- a rule -/
structure Rl where
  kind : Int
  proto : Int
  net : Int
  bits : Int
  goal : Int
  low : Int
  high : Int
def zeroRl : Rl := ⟨0, 0, 0, 0, 0, 0, 0⟩
/-- a power of two -/
def powN (n : Int) : Int := 2 ^ n.toNat
/-- an address with all but its first bits as 0 -/
def headN (addr bits : Int) : Int := addr / powN (32 - bits) * powN (32 - bits)
def bitsB (b : Int) : Bool := decide (0 ≤ b) && decide (b ≤ 32)
theorem bits_iff {b : Int} : bitsB b = true ↔ 0 ≤ b ∧ b ≤ 32 := by unfold bitsB; simp
theorem addr_iff {n : Int} : addrB n = true ↔ 0 ≤ n ∧ n ≤ 4294967295 := by unfold addrB; simp
theorem word_iff {n : Int} : wordB n = true ↔ 0 ≤ n ∧ n ≤ 65535 := by unfold wordB; simp
theorem pow_pos' (n : Int) : 0 < powN n := by unfold powN; exact Int.pow_pos (by omega)
theorem pow_le {n : Int} (h0 : 0 ≤ n) (h : n ≤ 32) : powN n ≤ 4294967296 := by
  unfold powN
  have : n.toNat ≤ 32 := by omega
  have h2 : (2 : Nat) ^ n.toNat ≤ 2 ^ 32 := Nat.pow_le_pow_right (by omega) this
  have h3 : ((2 : Int) ^ n.toNat) = (((2 : Nat) ^ n.toNat : Nat) : Int) := by simp
  rw [h3]
  omega
theorem pow_step {n : Int} (h0 : 0 ≤ n) : powN (n + 1) = 2 * powN n := by
  unfold powN
  have : (n + 1).toNat = n.toNat + 1 := by omega
  rw [this, Int.pow_succ]; omega
theorem head_bd {a b : Int} (ha : 0 ≤ a) : 0 ≤ headN a b ∧ headN a b ≤ a := by
  unfold headN
  have hp := pow_pos' (32 - b)
  have h1 := Int.ediv_nonneg ha (Int.le_of_lt hp)
  exact ⟨Int.mul_nonneg h1 (Int.le_of_lt hp), Int.ediv_mul_le _ (by omega)⟩
theorem div_bd {a p : Int} (ha : 0 ≤ a) (hp : 0 < p) : 0 ≤ a / p ∧ a / p ≤ a := ⟨Int.ediv_nonneg ha (Int.le_of_lt hp), Int.ediv_le_self _ ha⟩
/-- is it a net's address? -/
def netB (net bits : Int) : Bool := addrB net && bitsB bits && headN net bits == net
def kindB (k : Int) : Bool := k == 1 || k == 2
def protoB (p : Int) : Bool := p == 0 || p == 6 || p == 17 || p == 1
/-- is a rule right? -/
def rightR (r : Rl) : Bool := kindB r.kind && protoB r.proto && netB r.net r.bits && addrB r.goal && wordB r.low && wordB r.high && decide (r.low ≤ r.high) && (r.kind == 1 || r.low == r.high)
def allR : List Rl → Bool
  | [] => true
  | r :: l => rightR r && allR l
theorem allR_iff : ∀ {l : List Rl}, allR l = true ↔ ∀ r ∈ l, rightR r = true
  | [] => by simp [allR]
  | r :: l => by simp [allR, allR_iff (l := l)]
theorem allR_app : ∀ a b : List Rl, allR (a ++ b) = (allR a && allR b)
  | [], b => by simp [allR]
  | r :: l, b => by simp [allR, allR_app l b, Bool.and_assoc]
def rulesB (l : List Rl) : Bool := decide (l.length ≤ 6) && allR l
/-- are the first bits of both the same? -/
def inNetB (a n b : Int) : Bool := addrB a && addrB n && bitsB b && headN a b == headN n b
def namedA (kind : Int) (t : Tp) : Int := if kind = 2 then t.dst else t.src
/-- does a rule hold? -/
def forR (r : Rl) (kind : Int) (t : Tp) : Bool := r.kind == kind && (r.proto == 0 || r.proto == t.proto) && headN (namedA kind t) r.bits == r.net
/-- the first that holds -/
def firstR : List Rl → Int → Tp → Option Rl
  | [], _, _ => none
  | r :: l, k, t => if forR r k t = true then some r else firstR l k t
theorem firstR_mem : ∀ {l : List Rl} {k : Int} {t : Tp} {r : Rl}, firstR l k t = some r → r ∈ l ∧ forR r k t = true
  | [], _, _, _, h => by simp [firstR] at h
  | x :: l, k, t, r, h => by
    unfold firstR at h
    by_cases e : forR x k t = true
    · rw [if_pos e] at h; injection h with h; subst h; exact ⟨List.mem_cons_self .., e⟩
    · rw [if_neg e] at h; obtain ⟨a, b⟩ := firstR_mem h; exact ⟨List.mem_cons_of_mem _ a, b⟩
theorem firstR_none : ∀ {a b : List Rl} {k : Int} {t : Tp}, (∀ r ∈ a, forR r k t = false) → firstR (a ++ b) k t = firstR b k t
  | [], _, _, _, _ => rfl
  | x :: a, b, k, t, h => by
    have hx := h x (List.mem_cons_self ..)
    show (if forR x k t = true then some x else firstR (a ++ b) k t) = _
    rw [if_neg (by rw [hx]; simp)]
    exact firstR_none fun r hr => h r (List.mem_cons_of_mem _ hr)
def foundR (l : List Rl) (k : Int) (t : Tp) : Rl := (firstR l k t).getD zeroRl
def hasR (l : List Rl) (k : Int) (t : Tp) : Bool := (firstR l k t).isSome
def ruleB (l : List Rl) (k : Int) (t : Tp) : Bool := rulesB l && kindB k && rightT t
def ruleAns (l : List Rl) (k : Int) (t : Tp) : Rl := if ruleB l k t = true then foundR l k t else zeroRl
/-- the parts of right rules -/
theorem right_parts {r : Rl} (h : rightR r = true) : kindB r.kind = true ∧ protoB r.proto = true ∧ netB r.net r.bits = true ∧ addrB r.goal = true ∧ wordB r.low = true ∧ wordB r.high = true ∧ r.low ≤ r.high ∧ (r.kind = 1 ∨ r.low = r.high) := by
  unfold rightR at h
  simp only [Bool.and_eq_true, decide_eq_true_eq, Bool.or_eq_true, beq_iff_eq] at h
  obtain ⟨⟨⟨⟨⟨⟨⟨a, b⟩, c⟩, d⟩, e⟩, f⟩, g⟩, i⟩ := h
  exact ⟨a, b, c, d, e, f, g, i⟩
theorem net_parts {n b : Int} (h : netB n b = true) : 0 ≤ n ∧ n ≤ 4294967295 ∧ 0 ≤ b ∧ b ≤ 32 ∧ headN n b = n := by
  unfold netB at h
  simp only [Bool.and_eq_true, beq_iff_eq] at h
  obtain ⟨⟨a, c⟩, d⟩ := h
  obtain ⟨a1, a2⟩ := addr_iff.1 a
  obtain ⟨c1, c2⟩ := bits_iff.1 c
  exact ⟨a1, a2, c1, c2, d⟩
theorem tup_parts {t : Tp} (h : rightT t = true) : addrB t.src = true ∧ addrB t.dst = true ∧ wordB t.sport = true ∧ wordB t.dport = true := by
  unfold rightT at h
  simp only [Bool.and_eq_true] at h
  exact ⟨h.1.1.1.1, h.1.1.1.2, h.1.1.2, h.1.2⟩
theorem named_addr {k : Int} {t : Tp} (h : rightT t = true) : addrB (namedA k t) = true := by
  unfold namedA
  split
  · exact (tup_parts h).2.1
  · exact (tup_parts h).1
/-- in its net, of a right rule and a right tuple -/
theorem inNet_right {r : Rl} {k : Int} {t : Tp} (hr : rightR r = true) (ht : rightT t = true) : inNetB (namedA k t) r.net r.bits = (headN (namedA k t) r.bits == r.net) := by
  have hn := (right_parts hr).2.2.1
  obtain ⟨a1, a2, a3, a4, a5⟩ := net_parts hn
  unfold inNetB
  rw [named_addr ht, addr_iff.2 ⟨a1, a2⟩, bits_iff.2 ⟨a3, a4⟩, a5]
  simp
theorem allR_take {l : List Rl} {k : Nat} (h : k < l.length) : allR (l.take (k + 1)) = (allR (l.take k) && rightR (l.getD k zeroRl)) := by
  rw [List.take_succ_eq_append_getElem h, allR_app]
  simp [allR, h]
theorem allR_bad {l : List Rl} {k : Nat} (h : k < l.length) (hb : rightR (l.getD k zeroRl) = false) : allR l = false := by
  cases e : allR l
  · rfl
  · have hm : l.getD k zeroRl ∈ l := by simp [h]
    rw [allR_iff.1 e _ hm] at hb
    cases hb
def allT : List Tp → Bool
  | [] => true
  | r :: l => rightT r && allT l
theorem allT_iff : ∀ {l : List Tp}, allT l = true ↔ ∀ r ∈ l, rightT r = true
  | [] => by simp [allT]
  | r :: l => by simp [allT, allT_iff (l := l)]
theorem allT_app : ∀ a b : List Tp, allT (a ++ b) = (allT a && allT b)
  | [], b => by simp [allT]
  | r :: l, b => by simp [allT, allT_app l b, Bool.and_assoc]
theorem allT_take {l : List Tp} {k : Nat} (h : k < l.length) : allT (l.take (k + 1)) = (allT (l.take k) && rightT (l.getD k zeroTp)) := by
  rw [List.take_succ_eq_append_getElem h, allT_app]
  simp [allT, h]
theorem allT_bad {l : List Tp} {k : Nat} (h : k < l.length) (hb : rightT (l.getD k zeroTp) = false) : allT l = false := by
  cases e : allT l
  · rfl
  · have hm : l.getD k zeroTp ∈ l := by simp [h]
    rw [allT_iff.1 e _ hm] at hb
    cases hb
end Go.Proofs.Ytilajoafppplcaa
end
