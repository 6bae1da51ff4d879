/- Proved here: nothing of a program: two right tuples with the same text are the same. · Proved here: two tuples held against each other as wholes are the same just if all their numbers are (no program walked). · Proved here: an answer of a packet held against itself as a whole is the same (no program walked). -/
import Derived.Test.YtedknnkdnccfmaaGreatDoorAll23
import Derived.Test.YtedknnkdnccfmaaGreatDoorAll27
import Derived.Test.YtedknnkdnccfmaaGreatDoorAll28
import Derived.Test.YtedknnkdnccfmaaGreatDoorTupMath
import Derived.Test.YtedknnkdnccfmaaGreatDoorAll1
section
namespace Go.Proofs.YtedknnkdnccfmaaGreatDoor
open Go.ChangeShapes Go.WideShapes Go.ChangeAt Go.RowKit
set_option linter.unusedVariables false

theorem sep_inj {c : UInt8} : ∀ {l m r s : List UInt8}, (∀ b ∈ l, b ≠ c) → (∀ b ∈ m, b ≠ c) → l ++ c :: r = m ++ c :: s → l = m ∧ r = s
  | [], [], r, s, _, _, h => by simp at h; exact ⟨rfl, h⟩
  | [], y :: m, r, s, _, hm, h => by simp at h; exact ((hm y (by simp)) h.1.symm).elim
  | x :: l, [], r, s, hl, _, h => by simp at h; exact ((hl x (by simp)) h.1).elim
  | x :: l, y :: m, r, s, hl, hm, h => by
    simp at h
    obtain ⟨h1, h2⟩ := sep_inj (fun b hb => hl b (by simp [hb])) (fun b hb => hm b (by simp [hb])) h.2
    exact ⟨by rw [h.1, h1], h2⟩
theorem decR_digit : ∀ (f n : Nat) (b : UInt8), b ∈ decR f n → 48 ≤ b.toNat ∧ b.toNat ≤ 57
  | 0, n, b, h => by simp [decR] at h
  | f + 1, n, b, h => by
    by_cases hn : n = 0
    · subst hn
      rw [decR] at h; simp at h
    · rw [decR_succ hn] at h
      rcases List.mem_append.1 h with h | h
      · exact decR_digit f _ b h
      · simp at h; subst h
        have : n % 10 < 10 := Nat.mod_lt _ (by omega)
        simp; omega
theorem decL_digit (n : Nat) (b : UInt8) (h : b ∈ decL n) : 48 ≤ b.toNat ∧ b.toNat ≤ 57 := by
  unfold decL at h
  split at h
  · simp at h; subst h; decide
  · exact decR_digit _ _ b h
theorem decL_no (n : Nat) (c : UInt8) (hc : 57 < c.toNat) : ∀ b ∈ decL n, b ≠ c := fun b hb e => by
  have := decL_digit n b hb
  subst e; omega
theorem addr_no_c (n : Nat) (c : UInt8) (hc : 57 < c.toNat) : ∀ b ∈ (addrT n).data.toList, b ≠ c := fun b hb => by
  rw [addrT_list] at hb
  simp only [List.mem_append, List.mem_cons] at hb
  have h46 : (46 : UInt8) ≠ c := fun e => by rw [← e] at hc; exact absurd hc (by decide)
  rcases hb with h | rfl | h | rfl | h | rfl | h
  · exact decL_no _ c hc b h
  · exact h46
  · exact decL_no _ c hc b h
  · exact h46
  · exact decL_no _ c hc b h
  · exact h46
  · exact decL_no _ c hc b h
/-- what digits spell -/
def valL (l : List UInt8) : Nat := l.foldl (fun a b => a * 10 + (b.toNat - 48)) 0
theorem valL_snoc (l : List UInt8) (b : UInt8) : valL (l ++ [b]) = valL l * 10 + (b.toNat - 48) := by simp [valL]
theorem val_decR : ∀ (f n : Nat), n < 10 ^ f → valL (decR f n) = n
  | 0, n, h => by simp at h; subst h; rfl
  | f + 1, n, h => by
    by_cases hn : n = 0
    · subst hn; rw [decR]; rfl
    · rw [decR_succ hn, valL_snoc, val_decR f (n / 10) (by rw [Nat.pow_succ] at h; omega)]
      have : n % 10 < 10 := Nat.mod_lt _ (by omega)
      have e : (UInt8.ofNat (48 + n % 10)).toNat = 48 + n % 10 := by simp; omega
      rw [e]; omega
theorem val_decL (n : Nat) (h : n ≤ 65535) : valL (decL n) = n := by
  unfold decL
  split
  · next e => subst e; rfl
  · exact val_decR 20 n (Nat.lt_of_le_of_lt h (by decide))
theorem decL_inj {n m : Nat} (hn : n ≤ 65535) (hm : m ≤ 65535) (h : decL n = decL m) : n = m := by
  rw [← val_decL n hn, ← val_decL m hm, h]
theorem addrT_inj {n m : Nat} (hn : n ≤ 4294967295) (hm : m ≤ 4294967295) (h : (addrT n).data.toList = (addrT m).data.toList) : n = m := by
  have e : addrT n = addrT m := by
    cases hx : addrT n with | mk x => cases hy : addrT m with | mk y => rw [hx, hy] at h; simp at h; rw [h]
  have h1 := (code_yes n hn).2
  have h2 := (code_yes m hm).2
  rw [e, h2] at h1
  omega
theorem tup_list {t : Tp} (hs : addrB t.src = true) (hd : addrB t.dst = true) : (tupT t).data.toList = (nameS t).data.toList ++ ((addrT t.src.toNat).data.toList ++ 58 :: (decL t.sport.toNat ++ 62 :: ((addrT t.dst.toNat).data.toList ++ 58 :: (decL t.dport.toNat ++ (markL t).data.toList)))) := by
  have e1 : addrAns t.src = addrT t.src.toNat := if_pos hs
  have e2 : addrAns t.dst = addrT t.dst.toNat := if_pos hd
  unfold tupT
  rw [e1, e2]
  simp [ByteArray.data_append, decT]
theorem right_all {t : Tp} (h : rightT t = true) : addrB t.src = true ∧ addrB t.dst = true ∧ (0 ≤ t.sport ∧ t.sport ≤ 65535) ∧ (0 ≤ t.dport ∧ t.dport ≤ 65535) ∧ (t.proto = 1 ∧ (t.kind = 8 ∨ t.kind = 0) ∨ t.proto = 6 ∧ t.kind = 0 ∨ t.proto = 17 ∧ t.kind = 0) := by
  have hp := right_ports h
  unfold rightT echoB at h
  simp only [Bool.and_eq_true] at h
  refine ⟨h.1.1.1.1, h.1.1.1.2, hp.1, hp.2, ?_⟩
  have hk := h.2
  split at hk
  · next e => simp at hk; exact .inl ⟨e, hk.1⟩
  · simp at hk; rcases hk with ⟨h6 | h17, k⟩
    · exact .inr (.inl ⟨h6, k⟩)
    · exact .inr (.inr ⟨h17, k⟩)
theorem addr_bounds {n : Int} (h : addrB n = true) : 0 ≤ n ∧ n ≤ 4294967295 := by unfold addrB at h; simpa using h
theorem tupT_inj {a b : Tp} (ha : rightT a = true) (hb : rightT b = true) (h : tupT a = tupT b) : a = b := by
  obtain ⟨a1, a2, a3, a4, a5⟩ := right_all ha
  obtain ⟨b1, b2, b3, b4, b5⟩ := right_all hb
  have hl : (tupT a).data.toList = (tupT b).data.toList := by rw [h]
  rw [tup_list a1 a2, tup_list b1 b2] at hl
  have z1 := addr_bounds a1
  have z2 := addr_bounds a2
  have z3 := addr_bounds b1
  have z4 := addr_bounds b2
  have hpr : a.proto = b.proto := by
    unfold nameS at hl
    rcases a5 with ⟨p, _⟩ | ⟨p, _⟩ | ⟨p, _⟩ <;> rcases b5 with ⟨q, _⟩ | ⟨q, _⟩ | ⟨q, _⟩ <;> rw [p, q] <;> simp [p, q] at hl
  have hn : nameS a = nameS b := by unfold nameS; rw [hpr]
  rw [hn] at hl
  have hl := List.append_cancel_left hl
  obtain ⟨e1, hl⟩ := sep_inj (addr_no_c _ 58 (by decide)) (addr_no_c _ 58 (by decide)) hl
  obtain ⟨e2, hl⟩ := sep_inj (decL_no _ 62 (by decide)) (decL_no _ 62 (by decide)) hl
  obtain ⟨e3, hl⟩ := sep_inj (addr_no_c _ 58 (by decide)) (addr_no_c _ 58 (by decide)) hl
  have f1 := addrT_inj (by omega) (by omega) e1
  have f2 := decL_inj (by omega) (by omega) e2
  have f3 := addrT_inj (by omega) (by omega) e3
  have hm : (markL a).data.toList.length = (markL b).data.toList.length := by
    unfold markL
    rw [hpr]
    by_cases p1 : b.proto = 1
    · rw [if_pos p1, if_pos p1]; split <;> split <;> rfl
    · rw [if_neg p1, if_neg p1]
  obtain ⟨e4, e5⟩ := List.append_inj' hl hm
  have f4 := decL_inj (by omega) (by omega) e4
  refine tp_ext hpr (by omega) (by omega) (by omega) (by omega) ?_
  unfold markL at e5
  rw [hpr] at e5 a5
  rcases a5 with ⟨p, k⟩ | ⟨p, k⟩ | ⟨p, k⟩ <;> rcases b5 with ⟨q, j⟩ | ⟨q, j⟩ | ⟨q, j⟩
  · rw [if_pos p, if_pos p] at e5
    rcases k with k | k <;> rcases j with j | j <;> simp [k, j] at e5 ⊢
  all_goals omega
theorem tupT_pos (t : Tp) (h : rightT t = true) : (tupT t).toList.isEmpty = false := by
  obtain ⟨a1, a2, _⟩ := right_all h
  rw [toList_data, tup_list a1 a2]
  simp
theorem text_right {t : Tp} (h : rightT t = true) : textAns t = tupT t := if_pos h
end Go.Proofs.YtedknnkdnccfmaaGreatDoor
end

section
namespace Go.Proofs.YtedknnkdnccfmaaGreatDoor
open Go.ChangeShapes Go.WideShapes Go.ChangeAt Go.RowKit
set_option linter.unusedVariables false
set_option linter.unusedSimpArgs false
set_option maxRecDepth 100000

/-- are they the same? -/
def sameT (a b : Tp) : Bool := a.proto == b.proto && a.src == b.src && a.sport == b.sport && a.dst == b.dst && a.dport == b.dport && a.kind == b.kind
theorem sameT_iff {a b : Tp} : sameT a b = true ↔ a = b := by
  obtain ⟨a1, a2, a3, a4, a5, a6⟩ := a
  obtain ⟨b1, b2, b3, b4, b5, b6⟩ := b
  simp [sameT, and_assoc]
theorem eqlIn_tup (a b : Tp) (W : World) : (Op.equalIn 10000 40 (.agg #[.int .i64 a.proto, .int .i64 a.src, .int .i64 a.sport, .int .i64 a.dst, .int .i64 a.dport, .int .i64 a.kind]) (.agg #[.int .i64 b.proto, .int .i64 b.src, .int .i64 b.sport, .int .i64 b.dst, .int .i64 b.dport, .int .i64 b.kind])).run Tryz.prog W = .ok (sameT a b) W := by
  unfold sameT
  rw [show (10000 : Nat) = 9999 + 1 from rfl, run_equalIn_struct W 9999 40 _ _ (by kernel_rfl) (by kernel_rfl)]
  unfold Program.fieldsOf
  rw [Tryz.underlying40]
  have hi : ∀ (d : Nat) (x y : Int) (V : World), (Op.equalIn (d + 1) 2 (.int .i64 x) (.int .i64 y)).run Tryz.prog V = .ok (x == y) V := fun d x y V => run_equalIn_int V d 2 .i64 .i64 x y Tryz.underlying2
  rw [show (9999 : Nat) = 9998 + 1 from rfl]
  have q0 : ∀ (t : Tp) (V : World), (part 2 #[.int .i64 t.proto, .int .i64 t.src, .int .i64 t.sport, .int .i64 t.dst, .int .i64 t.dport, .int .i64 t.kind] 0).run Tryz.prog V = .ok (.int .i64 t.proto) V := fun _ _ => by kernel_rfl
  have q1 : ∀ (t : Tp) (V : World), (part 2 #[.int .i64 t.proto, .int .i64 t.src, .int .i64 t.sport, .int .i64 t.dst, .int .i64 t.dport, .int .i64 t.kind] 1).run Tryz.prog V = .ok (.int .i64 t.src) V := fun _ _ => by kernel_rfl
  have q2 : ∀ (t : Tp) (V : World), (part 2 #[.int .i64 t.proto, .int .i64 t.src, .int .i64 t.sport, .int .i64 t.dst, .int .i64 t.dport, .int .i64 t.kind] 2).run Tryz.prog V = .ok (.int .i64 t.sport) V := fun _ _ => by kernel_rfl
  have q3 : ∀ (t : Tp) (V : World), (part 2 #[.int .i64 t.proto, .int .i64 t.src, .int .i64 t.sport, .int .i64 t.dst, .int .i64 t.dport, .int .i64 t.kind] 3).run Tryz.prog V = .ok (.int .i64 t.dst) V := fun _ _ => by kernel_rfl
  have q4 : ∀ (t : Tp) (V : World), (part 2 #[.int .i64 t.proto, .int .i64 t.src, .int .i64 t.sport, .int .i64 t.dst, .int .i64 t.dport, .int .i64 t.kind] 4).run Tryz.prog V = .ok (.int .i64 t.dport) V := fun _ _ => by kernel_rfl
  have q5 : ∀ (t : Tp) (V : World), (part 2 #[.int .i64 t.proto, .int .i64 t.src, .int .i64 t.sport, .int .i64 t.dst, .int .i64 t.dport, .int .i64 t.kind] 5).run Tryz.prog V = .ok (.int .i64 t.kind) V := fun _ _ => by kernel_rfl
  generalize (9998 : Nat) = D at *
  cases h0 : (a.proto == b.proto) <;> cases h1 : (a.src == b.src) <;> cases h2 : (a.sport == b.sport) <;> cases h3 : (a.dst == b.dst) <;> cases h4 : (a.dport == b.dport) <;> cases h5 : (a.kind == b.kind) <;>
    simp only [Op.eqFields, q0, q1, q2, q3, q4, q5, hi, h0, h1, h2, h3, h4, h5, Sem.run_ite, Sem.run_bind, Result.andThen_ok, Sem.run_pure, ne_eq, String.reduceEq, not_false_eq_true, if_true, Bool.not_false, Bool.not_true, Bool.false_eq_true, if_false, Bool.and_true, Bool.and_false]
theorem eql_tup (a b : Tp) (W : World) : (binOp .eql 40 (.agg #[.int .i64 a.proto, .int .i64 a.src, .int .i64 a.sport, .int .i64 a.dst, .int .i64 a.dport, .int .i64 a.kind]) (.agg #[.int .i64 b.proto, .int .i64 b.src, .int .i64 b.sport, .int .i64 b.dst, .int .i64 b.dport, .int .i64 b.kind])).run Tryz.prog W = .ok (.bool (sameT a b)) W := by
  rw [run_eql_struct, eqlIn_tup]; rfl
theorem neq_tup (a b : Tp) (W : World) : (binOp .neq 40 (.agg #[.int .i64 a.proto, .int .i64 a.src, .int .i64 a.sport, .int .i64 a.dst, .int .i64 a.dport, .int .i64 a.kind]) (.agg #[.int .i64 b.proto, .int .i64 b.src, .int .i64 b.sport, .int .i64 b.dst, .int .i64 b.dport, .int .i64 b.kind])).run Tryz.prog W = .ok (.bool (!sameT a b)) W := by
  rw [run_neq_struct, eqlIn_tup]; rfl
end Go.Proofs.YtedknnkdnccfmaaGreatDoor
end

section
namespace Go.Proofs.YtedknnkdnccfmaaGreatDoor
open Go.ChangeShapes Go.WideShapes Go.ChangeAt Go.RowKit
set_option linter.unusedVariables false
set_option linter.unusedSimpArgs false
set_option maxRecDepth 100000

theorem eqlIn_pk (d : Nat) (p : Pk) (W : World) : (Op.equalIn (d + 3) 24 (.agg #[.int .i64 p.src, .int .i64 p.dst, .int .i64 p.proto, .int .i64 p.a, .int .i64 p.b, .int .i64 p.kind, .int .i64 p.flags, .int .i64 p.seq, .int .i64 p.ack, .string p.body]) (.agg #[.int .i64 p.src, .int .i64 p.dst, .int .i64 p.proto, .int .i64 p.a, .int .i64 p.b, .int .i64 p.kind, .int .i64 p.flags, .int .i64 p.seq, .int .i64 p.ack, .string p.body])).run Tryz.prog W = .ok true W := by
  rw [show d + 3 = (d + 2) + 1 from rfl, run_equalIn_struct W (d + 2) 24 _ _ (by kernel_rfl) (by kernel_rfl)]
  unfold Program.fieldsOf
  rw [Tryz.underlying24]
  have hi : ∀ (d : Nat) (x y : Int) (V : World), (Op.equalIn (d + 1) 2 (.int .i64 x) (.int .i64 y)).run Tryz.prog V = .ok (x == y) V := fun d x y V => run_equalIn_int V d 2 .i64 .i64 x y Tryz.underlying2
  have hs : ∀ (d : Nat) (x y : ByteArray) (V : World), (Op.equalIn (d + 1) 9 (.string x) (.string y)).run Tryz.prog V = .ok (x.toList == y.toList) V := fun d x y V => run_equalIn_string V d 9 x y Tryz.underlying9
  rw [show d + 2 = (d + 1) + 1 from rfl]
  have q0 : ∀ V : World, (part 2 #[.int .i64 p.src, .int .i64 p.dst, .int .i64 p.proto, .int .i64 p.a, .int .i64 p.b, .int .i64 p.kind, .int .i64 p.flags, .int .i64 p.seq, .int .i64 p.ack, .string p.body] 0).run Tryz.prog V = .ok (.int .i64 p.src) V := fun _ => by kernel_rfl
  have q1 : ∀ V : World, (part 2 #[.int .i64 p.src, .int .i64 p.dst, .int .i64 p.proto, .int .i64 p.a, .int .i64 p.b, .int .i64 p.kind, .int .i64 p.flags, .int .i64 p.seq, .int .i64 p.ack, .string p.body] 1).run Tryz.prog V = .ok (.int .i64 p.dst) V := fun _ => by kernel_rfl
  have q2 : ∀ V : World, (part 2 #[.int .i64 p.src, .int .i64 p.dst, .int .i64 p.proto, .int .i64 p.a, .int .i64 p.b, .int .i64 p.kind, .int .i64 p.flags, .int .i64 p.seq, .int .i64 p.ack, .string p.body] 2).run Tryz.prog V = .ok (.int .i64 p.proto) V := fun _ => by kernel_rfl
  have q3 : ∀ V : World, (part 2 #[.int .i64 p.src, .int .i64 p.dst, .int .i64 p.proto, .int .i64 p.a, .int .i64 p.b, .int .i64 p.kind, .int .i64 p.flags, .int .i64 p.seq, .int .i64 p.ack, .string p.body] 3).run Tryz.prog V = .ok (.int .i64 p.a) V := fun _ => by kernel_rfl
  have q4 : ∀ V : World, (part 2 #[.int .i64 p.src, .int .i64 p.dst, .int .i64 p.proto, .int .i64 p.a, .int .i64 p.b, .int .i64 p.kind, .int .i64 p.flags, .int .i64 p.seq, .int .i64 p.ack, .string p.body] 4).run Tryz.prog V = .ok (.int .i64 p.b) V := fun _ => by kernel_rfl
  have q5 : ∀ V : World, (part 2 #[.int .i64 p.src, .int .i64 p.dst, .int .i64 p.proto, .int .i64 p.a, .int .i64 p.b, .int .i64 p.kind, .int .i64 p.flags, .int .i64 p.seq, .int .i64 p.ack, .string p.body] 5).run Tryz.prog V = .ok (.int .i64 p.kind) V := fun _ => by kernel_rfl
  have q6 : ∀ V : World, (part 2 #[.int .i64 p.src, .int .i64 p.dst, .int .i64 p.proto, .int .i64 p.a, .int .i64 p.b, .int .i64 p.kind, .int .i64 p.flags, .int .i64 p.seq, .int .i64 p.ack, .string p.body] 6).run Tryz.prog V = .ok (.int .i64 p.flags) V := fun _ => by kernel_rfl
  have q7 : ∀ V : World, (part 2 #[.int .i64 p.src, .int .i64 p.dst, .int .i64 p.proto, .int .i64 p.a, .int .i64 p.b, .int .i64 p.kind, .int .i64 p.flags, .int .i64 p.seq, .int .i64 p.ack, .string p.body] 7).run Tryz.prog V = .ok (.int .i64 p.seq) V := fun _ => by kernel_rfl
  have q8 : ∀ V : World, (part 2 #[.int .i64 p.src, .int .i64 p.dst, .int .i64 p.proto, .int .i64 p.a, .int .i64 p.b, .int .i64 p.kind, .int .i64 p.flags, .int .i64 p.seq, .int .i64 p.ack, .string p.body] 8).run Tryz.prog V = .ok (.int .i64 p.ack) V := fun _ => by kernel_rfl
  have q9 : ∀ V : World, (part 9 #[.int .i64 p.src, .int .i64 p.dst, .int .i64 p.proto, .int .i64 p.a, .int .i64 p.b, .int .i64 p.kind, .int .i64 p.flags, .int .i64 p.seq, .int .i64 p.ack, .string p.body] 9).run Tryz.prog V = .ok (.string p.body) V := fun _ => by kernel_rfl
  simp only [Op.eqFields, q0, q1, q2, q3, q4, q5, q6, q7, q8, q9, hi, hs, beq_self_eq_true, Sem.run_ite, Sem.run_bind, Result.andThen_ok, Sem.run_pure, ne_eq, String.reduceEq, not_false_eq_true, if_true, Bool.not_false, Bool.not_true, Bool.false_eq_true, if_false, Bool.and_true, Bool.and_false]
theorem eqlIn_pko (p : Pk) (c : Int) (W : World) : (Op.equalIn 10000 29 (.agg #[.int .i64 p.src, .int .i64 p.dst, .int .i64 p.proto, .int .i64 p.a, .int .i64 p.b, .int .i64 p.kind, .int .i64 p.flags, .int .i64 p.seq, .int .i64 p.ack, .string p.body, .int .i64 (c)]) (.agg #[.int .i64 p.src, .int .i64 p.dst, .int .i64 p.proto, .int .i64 p.a, .int .i64 p.b, .int .i64 p.kind, .int .i64 p.flags, .int .i64 p.seq, .int .i64 p.ack, .string p.body, .int .i64 (c)])).run Tryz.prog W = .ok true W := by
  rw [show (10000 : Nat) = 9999 + 1 from rfl, run_equalIn_struct W 9999 29 _ _ (by kernel_rfl) (by kernel_rfl)]
  unfold Program.fieldsOf
  rw [Tryz.underlying29]
  have hi : ∀ (d : Nat) (x y : Int) (V : World), (Op.equalIn (d + 1) 2 (.int .i64 x) (.int .i64 y)).run Tryz.prog V = .ok (x == y) V := fun d x y V => run_equalIn_int V d 2 .i64 .i64 x y Tryz.underlying2
  have hk := fun V => eqlIn_pk 9996 p V
  rw [show (9996 + 3 : Nat) = 9998 + 1 from rfl] at hk
  rw [show (9999 : Nat) = 9998 + 1 from rfl]
  generalize (9998 : Nat) = D at *
  have q0 : ∀ V : World, (part 24 #[.int .i64 p.src, .int .i64 p.dst, .int .i64 p.proto, .int .i64 p.a, .int .i64 p.b, .int .i64 p.kind, .int .i64 p.flags, .int .i64 p.seq, .int .i64 p.ack, .string p.body, .int .i64 c] 0).run Tryz.prog V = .ok (.agg #[.int .i64 p.src, .int .i64 p.dst, .int .i64 p.proto, .int .i64 p.a, .int .i64 p.b, .int .i64 p.kind, .int .i64 p.flags, .int .i64 p.seq, .int .i64 p.ack, .string p.body]) V := fun _ => by kernel_rfl
  have q1 : ∀ V : World, (part 2 #[.int .i64 p.src, .int .i64 p.dst, .int .i64 p.proto, .int .i64 p.a, .int .i64 p.b, .int .i64 p.kind, .int .i64 p.flags, .int .i64 p.seq, .int .i64 p.ack, .string p.body, .int .i64 c] 10).run Tryz.prog V = .ok (.int .i64 c) V := fun _ => by kernel_rfl
  simp only [Op.eqFields, q0, q1, hi, hk, beq_self_eq_true, Sem.run_ite, Sem.run_bind, Result.andThen_ok, Sem.run_pure, ne_eq, String.reduceEq, not_false_eq_true, if_true, Bool.not_false, Bool.not_true, Bool.false_eq_true, if_false, Bool.and_true, Bool.and_false]
theorem eql_pko (p : Pk) (c : Int) (W : World) : (binOp .eql 29 (.agg #[.int .i64 p.src, .int .i64 p.dst, .int .i64 p.proto, .int .i64 p.a, .int .i64 p.b, .int .i64 p.kind, .int .i64 p.flags, .int .i64 p.seq, .int .i64 p.ack, .string p.body, .int .i64 (c)]) (.agg #[.int .i64 p.src, .int .i64 p.dst, .int .i64 p.proto, .int .i64 p.a, .int .i64 p.b, .int .i64 p.kind, .int .i64 p.flags, .int .i64 p.seq, .int .i64 p.ack, .string p.body, .int .i64 (c)])).run Tryz.prog W = .ok (.bool true) W := by
  rw [run_eql_struct, eqlIn_pko]; rfl
theorem neq_pko (p : Pk) (c : Int) (W : World) : (binOp .neq 29 (.agg #[.int .i64 p.src, .int .i64 p.dst, .int .i64 p.proto, .int .i64 p.a, .int .i64 p.b, .int .i64 p.kind, .int .i64 p.flags, .int .i64 p.seq, .int .i64 p.ack, .string p.body, .int .i64 (c)]) (.agg #[.int .i64 p.src, .int .i64 p.dst, .int .i64 p.proto, .int .i64 p.a, .int .i64 p.b, .int .i64 p.kind, .int .i64 p.flags, .int .i64 p.seq, .int .i64 p.ack, .string p.body, .int .i64 (c)])).run Tryz.prog W = .ok (.bool false) W := by
  rw [run_neq_struct, eqlIn_pko]; rfl
end Go.Proofs.YtedknnkdnccfmaaGreatDoor
end
