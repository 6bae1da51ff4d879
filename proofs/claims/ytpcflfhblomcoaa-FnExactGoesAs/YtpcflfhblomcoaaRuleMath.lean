/- Proved here: nothing of a program: what a right rule is, a net's head, the first rule that holds, as whom a tuple goes on, as plain functions. -/
import Derived.Test.YtpcflfhblomcoaaAll4
namespace Go.Proofs.Ytpcflfhblomcoaa
set_option linter.unusedVariables false

/-- a rule -/
structure Rl where
  kind : Int
  proto : Int
  net : Int
  bits : Int
  goal : Int
  low : Int
  high : Int
def zeroRl : Rl := ⟨0, 0, 0, 0, 0, 0, 0⟩
/-- a power of two -/
def powN (n : Int) : Int := 2 ^ n.toNat
/-- an address with all but its first bits as 0 -/
def headN (addr bits : Int) : Int := addr / powN (32 - bits) * powN (32 - bits)
def bitsB (b : Int) : Bool := decide (0 ≤ b) && decide (b ≤ 32)
theorem bits_iff {b : Int} : bitsB b = true ↔ 0 ≤ b ∧ b ≤ 32 := by unfold bitsB; simp
theorem addr_iff {n : Int} : addrB n = true ↔ 0 ≤ n ∧ n ≤ 4294967295 := by unfold addrB; simp
theorem word_iff {n : Int} : wordB n = true ↔ 0 ≤ n ∧ n ≤ 65535 := by unfold wordB; simp
theorem pow_pos' (n : Int) : 0 < powN n := by unfold powN; exact Int.pow_pos (by omega)
theorem pow_le {n : Int} (h0 : 0 ≤ n) (h : n ≤ 32) : powN n ≤ 4294967296 := by
  unfold powN
  have : n.toNat ≤ 32 := by omega
  have h2 : (2 : Nat) ^ n.toNat ≤ 2 ^ 32 := Nat.pow_le_pow_right (by omega) this
  have h3 : ((2 : Int) ^ n.toNat) = (((2 : Nat) ^ n.toNat : Nat) : Int) := by simp
  rw [h3]
  omega
theorem pow_step {n : Int} (h0 : 0 ≤ n) : powN (n + 1) = 2 * powN n := by
  unfold powN
  have : (n + 1).toNat = n.toNat + 1 := by omega
  rw [this, Int.pow_succ]; omega
theorem head_bd {a b : Int} (ha : 0 ≤ a) : 0 ≤ headN a b ∧ headN a b ≤ a := by
  unfold headN
  have hp := pow_pos' (32 - b)
  have h1 := Int.ediv_nonneg ha (Int.le_of_lt hp)
  exact ⟨Int.mul_nonneg h1 (Int.le_of_lt hp), Int.ediv_mul_le _ (by omega)⟩
theorem div_bd {a p : Int} (ha : 0 ≤ a) (hp : 0 < p) : 0 ≤ a / p ∧ a / p ≤ a := ⟨Int.ediv_nonneg ha (Int.le_of_lt hp), Int.ediv_le_self _ ha⟩
/-- is it a net's address? -/
def netB (net bits : Int) : Bool := addrB net && bitsB bits && headN net bits == net
def kindB (k : Int) : Bool := k == 1 || k == 2
def protoB (p : Int) : Bool := p == 0 || p == 6 || p == 17 || p == 1
/-- is a rule right? -/
def rightR (r : Rl) : Bool := kindB r.kind && protoB r.proto && netB r.net r.bits && addrB r.goal && wordB r.low && wordB r.high && decide (r.low ≤ r.high) && (r.kind == 1 || r.low == r.high)
def allR : List Rl → Bool
  | [] => true
  | r :: l => rightR r && allR l
theorem allR_iff : ∀ {l : List Rl}, allR l = true ↔ ∀ r ∈ l, rightR r = true
  | [] => by simp [allR]
  | r :: l => by simp [allR, allR_iff (l := l)]
theorem allR_app : ∀ a b : List Rl, allR (a ++ b) = (allR a && allR b)
  | [], b => by simp [allR]
  | r :: l, b => by simp [allR, allR_app l b, Bool.and_assoc]
def rulesB (l : List Rl) : Bool := decide (l.length ≤ 6) && allR l
/-- are the first bits of both the same? -/
def inNetB (a n b : Int) : Bool := addrB a && addrB n && bitsB b && headN a b == headN n b
def namedA (kind : Int) (t : Tp) : Int := if kind = 2 then t.dst else t.src
/-- does a rule hold? -/
def forR (r : Rl) (kind : Int) (t : Tp) : Bool := r.kind == kind && (r.proto == 0 || r.proto == t.proto) && headN (namedA kind t) r.bits == r.net
/-- the first that holds -/
def firstR : List Rl → Int → Tp → Option Rl
  | [], _, _ => none
  | r :: l, k, t => if forR r k t = true then some r else firstR l k t
theorem firstR_mem : ∀ {l : List Rl} {k : Int} {t : Tp} {r : Rl}, firstR l k t = some r → r ∈ l ∧ forR r k t = true
  | [], _, _, _, h => by simp [firstR] at h
  | x :: l, k, t, r, h => by
    unfold firstR at h
    by_cases e : forR x k t = true
    · rw [if_pos e] at h; injection h with h; subst h; exact ⟨List.mem_cons_self .., e⟩
    · rw [if_neg e] at h; obtain ⟨a, b⟩ := firstR_mem h; exact ⟨List.mem_cons_of_mem _ a, b⟩
theorem firstR_none : ∀ {a b : List Rl} {k : Int} {t : Tp}, (∀ r ∈ a, forR r k t = false) → firstR (a ++ b) k t = firstR b k t
  | [], _, _, _, _ => rfl
  | x :: a, b, k, t, h => by
    have hx := h x (List.mem_cons_self ..)
    show (if forR x k t = true then some x else firstR (a ++ b) k t) = _
    rw [if_neg (by rw [hx]; simp)]
    exact firstR_none fun r hr => h r (List.mem_cons_of_mem _ hr)
def foundR (l : List Rl) (k : Int) (t : Tp) : Rl := (firstR l k t).getD zeroRl
def hasR (l : List Rl) (k : Int) (t : Tp) : Bool := (firstR l k t).isSome
def ruleB (l : List Rl) (k : Int) (t : Tp) : Bool := rulesB l && kindB k && rightT t
def ruleAns (l : List Rl) (k : Int) (t : Tp) : Rl := if ruleB l k t = true then foundR l k t else zeroRl
/-- the parts of right rules -/
theorem right_parts {r : Rl} (h : rightR r = true) : kindB r.kind = true ∧ protoB r.proto = true ∧ netB r.net r.bits = true ∧ addrB r.goal = true ∧ wordB r.low = true ∧ wordB r.high = true ∧ r.low ≤ r.high ∧ (r.kind = 1 ∨ r.low = r.high) := by
  unfold rightR at h
  simp only [Bool.and_eq_true, decide_eq_true_eq, Bool.or_eq_true, beq_iff_eq] at h
  obtain ⟨⟨⟨⟨⟨⟨⟨a, b⟩, c⟩, d⟩, e⟩, f⟩, g⟩, i⟩ := h
  exact ⟨a, b, c, d, e, f, g, i⟩
theorem net_parts {n b : Int} (h : netB n b = true) : 0 ≤ n ∧ n ≤ 4294967295 ∧ 0 ≤ b ∧ b ≤ 32 ∧ headN n b = n := by
  unfold netB at h
  simp only [Bool.and_eq_true, beq_iff_eq] at h
  obtain ⟨⟨a, c⟩, d⟩ := h
  obtain ⟨a1, a2⟩ := addr_iff.1 a
  obtain ⟨c1, c2⟩ := bits_iff.1 c
  exact ⟨a1, a2, c1, c2, d⟩
theorem tup_parts {t : Tp} (h : rightT t = true) : addrB t.src = true ∧ addrB t.dst = true ∧ wordB t.sport = true ∧ wordB t.dport = true := by
  unfold rightT at h
  simp only [Bool.and_eq_true] at h
  exact ⟨h.1.1.1.1, h.1.1.1.2, h.1.1.2, h.1.2⟩
theorem named_addr {k : Int} {t : Tp} (h : rightT t = true) : addrB (namedA k t) = true := by
  unfold namedA
  split
  · exact (tup_parts h).2.1
  · exact (tup_parts h).1
/-- in its net, of a right rule and a right tuple -/
theorem inNet_right {r : Rl} {k : Int} {t : Tp} (hr : rightR r = true) (ht : rightT t = true) : inNetB (namedA k t) r.net r.bits = (headN (namedA k t) r.bits == r.net) := by
  have hn := (right_parts hr).2.2.1
  obtain ⟨a1, a2, a3, a4, a5⟩ := net_parts hn
  unfold inNetB
  rw [named_addr ht, addr_iff.2 ⟨a1, a2⟩, bits_iff.2 ⟨a3, a4⟩, a5]
  simp
theorem allR_take {l : List Rl} {k : Nat} (h : k < l.length) : allR (l.take (k + 1)) = (allR (l.take k) && rightR (l.getD k zeroRl)) := by
  rw [List.take_succ_eq_append_getElem h, allR_app]
  simp [allR, h]
theorem allR_bad {l : List Rl} {k : Nat} (h : k < l.length) (hb : rightR (l.getD k zeroRl) = false) : allR l = false := by
  cases e : allR l
  · rfl
  · have hm : l.getD k zeroRl ∈ l := by simp [h]
    rw [allR_iff.1 e _ hm] at hb
    cases hb
def allT : List Tp → Bool
  | [] => true
  | r :: l => rightT r && allT l
theorem allT_iff : ∀ {l : List Tp}, allT l = true ↔ ∀ r ∈ l, rightT r = true
  | [] => by simp [allT]
  | r :: l => by simp [allT, allT_iff (l := l)]
theorem allT_app : ∀ a b : List Tp, allT (a ++ b) = (allT a && allT b)
  | [], b => by simp [allT]
  | r :: l, b => by simp [allT, allT_app l b, Bool.and_assoc]
theorem allT_take {l : List Tp} {k : Nat} (h : k < l.length) : allT (l.take (k + 1)) = (allT (l.take k) && rightT (l.getD k zeroTp)) := by
  rw [List.take_succ_eq_append_getElem h, allT_app]
  simp [allT, h]
theorem allT_bad {l : List Tp} {k : Nat} (h : k < l.length) (hb : rightT (l.getD k zeroTp) = false) : allT l = false := by
  cases e : allT l
  · rfl
  · have hm : l.getD k zeroTp ∈ l := by simp [h]
    rw [allT_iff.1 e _ hm] at hb
    cases hb
end Go.Proofs.Ytpcflfhblomcoaa
