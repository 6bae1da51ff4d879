/- Proved here: nothing of a program: of the error that is told of a right packet is read that packet's tuple and no body. · Proved here: an answer of a packet held against itself as a whole is the same (no program walked). -/
import Derived.Test.YtokjhfgbnpdfnaaDoorErrSpec
import Derived.Test.YtokjhfgbnpdfnaaDoorInnerMath
import Derived.Test.YtokjhfgbnpdfnaaDoorAll24
import Derived.Test.YtokjhfgbnpdfnaaDoorAll2
import Derived.Test.YtokjhfgbnpdfnaaDoorAll1
section
namespace Go.Proofs.YtokjhfgbnpdfnaaDoor
set_option linter.unusedVariables false
set_option linter.unusedSimpArgs false
set_option maxRecDepth 100000

theorem two_back (n : Nat) (h : n ≤ 65535) : 256 * (UInt8.ofNat (n / 256)).toNat + (UInt8.ofNat (n % 256)).toNat = n := by
  have e0 : (UInt8.ofNat (n / 256)).toNat = n / 256 := by simp; omega
  have e1 : (UInt8.ofNat (n % 256)).toNat = n % 256 := by simp
  rw [e0, e1]; omega
theorem four_back (n : Nat) (h : n ≤ 4294967295) : 65536 * (256 * (UInt8.ofNat (n / 65536 / 256)).toNat + (UInt8.ofNat (n / 65536 % 256)).toNat) + (256 * (UInt8.ofNat (n % 65536 / 256)).toNat + (UInt8.ofNat (n % 65536 % 256)).toNat) = n := by
  rw [two_back _ (by omega), two_back _ (by omega)]; omega
theorem one_back (z : Int) (h0 : 0 ≤ z) (h1 : z ≤ 255) : (UInt8.ofNat z.toNat).toNat = z.toNat := by simp; omega

/-- the first 28 bytes of a packet's bytes -/
def cutT (p : Pk) : ByteArray := (bytesOf p).extract 0 28
theorem cutT_size {p : Pk} (h : rightB p = true) : (cutT p).size = 28 := by
  have := bytesOf_28 (fine_of h)
  unfold cutT; rw [ByteArray.size_extract]; omega
theorem cut_lists (p : Pk) : ∃ h1 h2 c1 c2 : UInt8, ∃ k, (cutT p).data.toList = [69, 0, h1, h2, 0, 0, 0, 0, 64, UInt8.ofNat p.proto.toNat, c1, c2] ++ (fourT p.src.toNat).data.toList ++ (fourT p.dst.toNat).data.toList ++ (tailT p k).data.toList.take 8 := by
  unfold cutT
  rw [bytes_28, head_list, two_list, two_list]
  exact ⟨_, _, _, _, _, rfl⟩
theorem cut_head (p : Pk) (hr : rightB p = true) : byteN (cutT p) 9 = p.proto.toNat ∧ word4 (cutT p) 12 = p.src.toNat ∧ word4 (cutT p) 16 = p.dst.toNat ∧ bt (cutT p) 0 = 69 ∧ bt (cutT p) 1 = 0 ∧ bt (cutT p) 4 = 0 ∧ bt (cutT p) 5 = 0 ∧ bt (cutT p) 6 = 0 ∧ bt (cutT p) 7 = 0 ∧ bt (cutT p) 8 = 64 := by
  obtain ⟨h1, h2, c1, c2, k, e⟩ := cut_lists p
  have hp : 0 ≤ p.proto ∧ p.proto ≤ 255 ∧ addrB p.src = true ∧ addrB p.dst = true := by
    unfold rightB at hr
    simp only [Bool.and_eq_true] at hr
    refine ⟨?_, ?_, hr.1.1.1, hr.1.1.2⟩
    all_goals (have := hr.2; split at this; omega; split at this; omega; split at this; omega; cases this)
  obtain ⟨p0, p1, s1, s2⟩ := hp
  have s1 := addrB_iff.1 s1
  have s2 := addrB_iff.1 s2
  rw [four_list, four_list] at e
  unfold word4 word2
  simp only [byteN_bt, bt, e]
  refine ⟨one_back _ p0 p1, four_back _ (by omega), four_back _ (by omega), rfl, rfl, rfl, rfl, rfl, rfl, rfl⟩

/-- of whom the first 28 bytes of a right packet's bytes speak -/
theorem inner_cut (p : Pk) (hr : rightB p = true) (hk : errorB p = false) : innerPk (cutT p) = { p with flags := 0, ack := 0, body := ⟨#[]⟩ } ∧ (p.proto = 1 → byteN (cutT p) 21 = 0) := by
  obtain ⟨e9, e12, e16, _⟩ := cut_head p hr
  obtain ⟨h1, h2, c1, c2, k, e⟩ := cut_lists p
  rw [four_list, four_list] at e
  have hr' := hr
  unfold rightB at hr'
  simp only [Bool.and_eq_true] at hr'
  have s1 := addrB_iff.1 hr'.1.1.1
  have s2 := addrB_iff.1 hr'.1.1.2
  have ht := hr'.2
  by_cases p6 : p.proto = 6
  · rw [if_pos p6] at ht
    unfold tcpB at ht
    simp only [Bool.and_eq_true, decide_eq_true_eq] at ht
    obtain ⟨⟨⟨⟨⟨ha, hb⟩, hkd⟩, hf⟩, hs⟩, hc⟩ := ht
    have ha := wordB_iff.1 ha
    have hb := wordB_iff.1 hb
    have hs := addrB_iff.1 hs
    have ta : (tailT p k).data.toList.take 8 = [UInt8.ofNat (p.a.toNat / 256), UInt8.ofNat (p.a.toNat % 256), UInt8.ofNat (p.b.toNat / 256), UInt8.ofNat (p.b.toNat % 256)] ++ [UInt8.ofNat (p.seq.toNat / 65536 / 256), UInt8.ofNat (p.seq.toNat / 65536 % 256), UInt8.ofNat (p.seq.toNat % 65536 / 256), UInt8.ofNat (p.seq.toNat % 65536 % 256)] := by
      unfold tailT
      rw [if_pos p6]
      simp [two_list, four_list]
    rw [ta] at e
    have e20 : word2 (cutT p) 20 = p.a.toNat := by unfold word2; simp only [byteN_bt, bt, e]; exact two_back _ (by omega)
    have e22 : word2 (cutT p) 22 = p.b.toNat := by unfold word2; simp only [byteN_bt, bt, e]; exact two_back _ (by omega)
    have e24 : word4 (cutT p) 24 = p.seq.toNat := by unfold word4 word2; simp only [byteN_bt, bt, e]; exact four_back _ (by omega)
    refine ⟨?_, fun h => by omega⟩
    unfold innerPk
    rw [if_pos (by rw [e9, p6]; rfl), e9, e12, e16, e20, e22, e24]
    obtain ⟨xs, xd, xp, xa, xb, xk, xf, xq, xc, xy⟩ := p
    simp at *
    omega
  · rw [if_neg p6] at ht
    by_cases p17 : p.proto = 17
    · rw [if_pos p17] at ht
      unfold udpB at ht
      simp only [Bool.and_eq_true, decide_eq_true_eq] at ht
      obtain ⟨⟨⟨⟨⟨ha, hb⟩, hkd⟩, hf⟩, hs⟩, hc⟩ := ht
      have ha := wordB_iff.1 ha
      have hb := wordB_iff.1 hb
      have ta : ∃ x1 x2 x3 x4, (tailT p k).data.toList.take 8 = [UInt8.ofNat (p.a.toNat / 256), UInt8.ofNat (p.a.toNat % 256), UInt8.ofNat (p.b.toNat / 256), UInt8.ofNat (p.b.toNat % 256), x1, x2, x3, x4] := by
        unfold tailT
        rw [if_neg p6, if_pos p17]
        exact ⟨_, _, _, _, by simp only [ByteArray.data_append, Array.toList_append, two_list]; rfl⟩
      obtain ⟨x1, x2, x3, x4, ta⟩ := ta
      rw [ta] at e
      have e20 : word2 (cutT p) 20 = p.a.toNat := by unfold word2; simp only [byteN_bt, bt, e]; exact two_back _ (by omega)
      have e22 : word2 (cutT p) 22 = p.b.toNat := by unfold word2; simp only [byteN_bt, bt, e]; exact two_back _ (by omega)
      refine ⟨?_, fun h => by omega⟩
      unfold innerPk
      rw [if_neg (by rw [e9]; omega), if_neg (by rw [e9]; omega), e9, e12, e16, e20, e22]
      obtain ⟨xs, xd, xp, xa, xb, xk, xf, xq, xc, xy⟩ := p
      simp at *
      omega
    · rw [if_neg p17] at ht
      by_cases p1 : p.proto = 1
      · rw [if_pos p1] at ht
        have hk3 : p.kind ≠ 3 := fun h => by unfold errorB at hk; rw [p1, h] at hk; cases hk
        unfold pingB at ht
        rw [if_neg hk3] at ht
        simp only [Bool.and_eq_true, Bool.or_eq_true, decide_eq_true_eq] at ht
        obtain ⟨⟨⟨hb, hf⟩, hc⟩, ⟨hkd, ha⟩, hs⟩ := ht
        have ha := wordB_iff.1 ha
        have hs := wordB_iff.1 hs
        have ta : ∃ x1 x2, (tailT p k).data.toList.take 8 = [UInt8.ofNat p.kind.toNat, 0, x1, x2, UInt8.ofNat (p.a.toNat / 256), UInt8.ofNat (p.a.toNat % 256), UInt8.ofNat (p.seq.toNat / 256), UInt8.ofNat (p.seq.toNat % 256)] := by
          unfold tailT
          rw [if_neg p6, if_neg p17, if_neg hk3]
          have hrow : (rowT [p.kind, 0]).data.toList = [UInt8.ofNat p.kind.toNat, 0] := rfl
          exact ⟨_, _, by simp only [ByteArray.data_append, Array.toList_append, two_list, hrow]; rfl⟩
        obtain ⟨x1, x2, ta⟩ := ta
        rw [ta] at e
        have e20 : byteN (cutT p) 20 = p.kind.toNat := by simp only [byteN_bt, bt, e]; exact one_back _ (by omega) (by omega)
        have e21 : byteN (cutT p) 21 = 0 := by simp only [byteN_bt, bt, e]; rfl
        have e24 : word2 (cutT p) 24 = p.a.toNat := by unfold word2; simp only [byteN_bt, bt, e]; exact two_back _ (by omega)
        have e26 : word2 (cutT p) 26 = p.seq.toNat := by unfold word2; simp only [byteN_bt, bt, e]; exact two_back _ (by omega)
        refine ⟨?_, fun _ => e21⟩
        unfold innerPk
        rw [if_neg (by rw [e9]; omega), if_pos (by rw [e9]; omega), e9, e12, e16, e20, e24, e26]
        obtain ⟨xs, xd, xp, xa, xb, xk, xf, xq, xc, xy⟩ := p
        simp at *
        omega
      · rw [if_neg p1] at ht
        cases ht

theorem err_parts {p : Pk} {f : Int} (h : errB p f = true) : rightB p = true ∧ errorB p = false ∧ addrB f = true := by
  unfold errB at h
  simp only [Bool.and_eq_true, Bool.not_eq_true'] at h
  exact ⟨h.1.1, h.1.2, h.2⟩
theorem errP_is {p : Pk} {f : Int} (h : errB p f = true) : errP p f = ⟨f, p.src, 1, 0, 0, 3, 0, 0, 0, cutT p⟩ := by unfold errP cutT; rw [if_pos h]
theorem err_src {p : Pk} (h : rightB p = true) : addrB p.src = true ∧ addrB p.dst = true := by
  unfold rightB at h
  simp only [Bool.and_eq_true] at h
  exact h.1.1
/-- what tells the error is right -/
theorem err_right {p : Pk} {f : Int} (h : errB p f = true) : rightB (errP p f) = true := by
  obtain ⟨hr, hk, hf⟩ := err_parts h
  rw [errP_is h]
  unfold rightB pingB
  simp [hf, (err_src hr).1, cutT_size hr]
theorem cut_again {p : Pk} (hr : rightB p = true) : (cutT p).extract 0 28 = cutT p := by
  have h := cutT_size hr
  rw [← h]
  exact ByteArray.extract_zero_size
/-- a right packet without its flags, its ack and its body -/
def bareP (p : Pk) : Pk := { p with flags := 0, ack := 0, body := ⟨#[]⟩ }
theorem bare_right {p : Pk} (hr : rightB p = true) (hk : errorB p = false) : rightB (bareP p) = true := by
  obtain ⟨xs, xd, xp, xa, xb, xk, xf, xq, xc, xy⟩ := p
  unfold rightB tcpB udpB pingB flagB addrB wordB at *
  unfold errorB at hk
  unfold bareP
  simp only [Bool.and_eq_true, decide_eq_true_eq] at hr ⊢
  refine ⟨⟨hr.1.1, by show (0 : Nat) ≤ 100; omega⟩, ?_⟩
  have ht := hr.2
  clear hr
  split at ht
  · rename_i h6
    rw [if_pos h6]
    simp only [Bool.and_eq_true, decide_eq_true_eq] at ht ⊢
    exact ⟨⟨⟨ht.1.1.1, by omega, by omega⟩, ht.1.2⟩, by omega, by omega⟩
  · rename_i h6
    rw [if_neg h6]
    split at ht
    · rename_i h17
      rw [if_pos h17]
      simp only [Bool.and_eq_true, decide_eq_true_eq] at ht ⊢
      exact ⟨⟨⟨ht.1.1.1, trivial⟩, ht.1.2⟩, trivial⟩
    · rename_i h17
      rw [if_neg h17]
      split at ht
      · rename_i h1
        rw [if_pos h1]
        have h3 : xk ≠ 3 := fun h => by subst h; simp [h1] at hk
        rw [if_neg h3] at ht ⊢
        simp only [Bool.and_eq_true, Bool.or_eq_true, decide_eq_true_eq] at ht ⊢
        exact ⟨⟨⟨ht.1.1.1, trivial⟩, trivial⟩, ht.2⟩
      · cases ht
theorem bare_of {p : Pk} (hr : rightB p = true) (hk : errorB p = false) : ofAns (bareP p) = ofAns p := by
  have h1 := bare_right hr hk
  have h2 : errorB (bareP p) = false := hk
  unfold ofAns
  rw [h1, h2, hr, hk]
  rfl
/-- of the error is read of whom it was told -/
theorem err_inner {p : Pk} {f : Int} (h : errB p f = true) : innerC (errP p f) = 0 ∧ innerP (errP p f) = bareP p := by
  obtain ⟨hr, hk, hf⟩ := err_parts h
  obtain ⟨hi, h21⟩ := inner_cut p hr hk
  obtain ⟨o1, o2, o3, o4⟩ := ok_lists (cutT p) (cutT_size hr)
  obtain ⟨_, _, _, b0, b1, b4, b5, b6, b7, b8⟩ := cut_head p hr
  have hbody : (errP p f).body = cutT p := by rw [errP_is h]
  have hK : errK (errP p f) = true := by unfold errK; rw [err_right h, errP_is h]; rfl
  have hok : okI (cutT p) (innerPk (cutT p)) = true := by
    unfold okI
    rw [o1, o2, o3, o4, b0, b1, b4, b5, b6, b7, b8, hi]
    have hbr : rightB { p with flags := 0, ack := 0, body := ⟨#[]⟩ } = true := bare_right hr hk
    rw [hbr]
    have hk' : (p.proto == 1 && (p.kind == 3 || !((byteN (cutT p) 21 : Int) == 0))) = false := by
      unfold errorB at hk
      by_cases h1 : p.proto = 1
      · rw [h21 h1]
        rw [h1] at hk ⊢
        simpa using hk
      · simp [h1]
    simp [hk']
  have hC : innerC (errP p f) = 0 := by
    unfold innerC
    rw [hK, hbody, cut_again hr, hok]
    rfl
  refine ⟨hC, ?_⟩
  unfold innerP
  rw [if_pos hC, hbody, cut_again hr, hi]
  rfl
end Go.Proofs.YtokjhfgbnpdfnaaDoor
end

section
namespace Go.Proofs.YtokjhfgbnpdfnaaDoor
open Go.ChangeShapes Go.WideShapes Go.ChangeAt Go.RowKit
set_option linter.unusedVariables false
set_option linter.unusedSimpArgs false
set_option maxRecDepth 100000

theorem eqlIn_pk (d : Nat) (p : Pk) (W : World) : (Op.equalIn (d + 3) 35 (.agg #[.int .i64 p.src, .int .i64 p.dst, .int .i64 p.proto, .int .i64 p.a, .int .i64 p.b, .int .i64 p.kind, .int .i64 p.flags, .int .i64 p.seq, .int .i64 p.ack, .string p.body]) (.agg #[.int .i64 p.src, .int .i64 p.dst, .int .i64 p.proto, .int .i64 p.a, .int .i64 p.b, .int .i64 p.kind, .int .i64 p.flags, .int .i64 p.seq, .int .i64 p.ack, .string p.body])).run Tryd.prog W = .ok true W := by
  rw [show d + 3 = (d + 2) + 1 from rfl, run_equalIn_struct W (d + 2) 35 _ _ (by kernel_rfl) (by kernel_rfl)]
  unfold Program.fieldsOf
  rw [Tryd.underlying35]
  have hi : ∀ (d : Nat) (x y : Int) (V : World), (Op.equalIn (d + 1) 2 (.int .i64 x) (.int .i64 y)).run Tryd.prog V = .ok (x == y) V := fun d x y V => run_equalIn_int V d 2 .i64 .i64 x y Tryd.underlying2
  have hs : ∀ (d : Nat) (x y : ByteArray) (V : World), (Op.equalIn (d + 1) 9 (.string x) (.string y)).run Tryd.prog V = .ok (x.toList == y.toList) V := fun d x y V => run_equalIn_string V d 9 x y Tryd.underlying9
  rw [show d + 2 = (d + 1) + 1 from rfl]
  have q0 : ∀ V : World, (part 2 #[.int .i64 p.src, .int .i64 p.dst, .int .i64 p.proto, .int .i64 p.a, .int .i64 p.b, .int .i64 p.kind, .int .i64 p.flags, .int .i64 p.seq, .int .i64 p.ack, .string p.body] 0).run Tryd.prog V = .ok (.int .i64 p.src) V := fun _ => by kernel_rfl
  have q1 : ∀ V : World, (part 2 #[.int .i64 p.src, .int .i64 p.dst, .int .i64 p.proto, .int .i64 p.a, .int .i64 p.b, .int .i64 p.kind, .int .i64 p.flags, .int .i64 p.seq, .int .i64 p.ack, .string p.body] 1).run Tryd.prog V = .ok (.int .i64 p.dst) V := fun _ => by kernel_rfl
  have q2 : ∀ V : World, (part 2 #[.int .i64 p.src, .int .i64 p.dst, .int .i64 p.proto, .int .i64 p.a, .int .i64 p.b, .int .i64 p.kind, .int .i64 p.flags, .int .i64 p.seq, .int .i64 p.ack, .string p.body] 2).run Tryd.prog V = .ok (.int .i64 p.proto) V := fun _ => by kernel_rfl
  have q3 : ∀ V : World, (part 2 #[.int .i64 p.src, .int .i64 p.dst, .int .i64 p.proto, .int .i64 p.a, .int .i64 p.b, .int .i64 p.kind, .int .i64 p.flags, .int .i64 p.seq, .int .i64 p.ack, .string p.body] 3).run Tryd.prog V = .ok (.int .i64 p.a) V := fun _ => by kernel_rfl
  have q4 : ∀ V : World, (part 2 #[.int .i64 p.src, .int .i64 p.dst, .int .i64 p.proto, .int .i64 p.a, .int .i64 p.b, .int .i64 p.kind, .int .i64 p.flags, .int .i64 p.seq, .int .i64 p.ack, .string p.body] 4).run Tryd.prog V = .ok (.int .i64 p.b) V := fun _ => by kernel_rfl
  have q5 : ∀ V : World, (part 2 #[.int .i64 p.src, .int .i64 p.dst, .int .i64 p.proto, .int .i64 p.a, .int .i64 p.b, .int .i64 p.kind, .int .i64 p.flags, .int .i64 p.seq, .int .i64 p.ack, .string p.body] 5).run Tryd.prog V = .ok (.int .i64 p.kind) V := fun _ => by kernel_rfl
  have q6 : ∀ V : World, (part 2 #[.int .i64 p.src, .int .i64 p.dst, .int .i64 p.proto, .int .i64 p.a, .int .i64 p.b, .int .i64 p.kind, .int .i64 p.flags, .int .i64 p.seq, .int .i64 p.ack, .string p.body] 6).run Tryd.prog V = .ok (.int .i64 p.flags) V := fun _ => by kernel_rfl
  have q7 : ∀ V : World, (part 2 #[.int .i64 p.src, .int .i64 p.dst, .int .i64 p.proto, .int .i64 p.a, .int .i64 p.b, .int .i64 p.kind, .int .i64 p.flags, .int .i64 p.seq, .int .i64 p.ack, .string p.body] 7).run Tryd.prog V = .ok (.int .i64 p.seq) V := fun _ => by kernel_rfl
  have q8 : ∀ V : World, (part 2 #[.int .i64 p.src, .int .i64 p.dst, .int .i64 p.proto, .int .i64 p.a, .int .i64 p.b, .int .i64 p.kind, .int .i64 p.flags, .int .i64 p.seq, .int .i64 p.ack, .string p.body] 8).run Tryd.prog V = .ok (.int .i64 p.ack) V := fun _ => by kernel_rfl
  have q9 : ∀ V : World, (part 9 #[.int .i64 p.src, .int .i64 p.dst, .int .i64 p.proto, .int .i64 p.a, .int .i64 p.b, .int .i64 p.kind, .int .i64 p.flags, .int .i64 p.seq, .int .i64 p.ack, .string p.body] 9).run Tryd.prog V = .ok (.string p.body) V := fun _ => by kernel_rfl
  simp only [Op.eqFields, q0, q1, q2, q3, q4, q5, q6, q7, q8, q9, hi, hs, beq_self_eq_true, Sem.run_ite, Sem.run_bind, Result.andThen_ok, Sem.run_pure, ne_eq, String.reduceEq, not_false_eq_true, if_true, Bool.not_false, Bool.not_true, Bool.false_eq_true, if_false, Bool.and_true, Bool.and_false]
theorem eqlIn_pko (p : Pk) (c : Int) (W : World) : (Op.equalIn 10000 39 (.agg #[.int .i64 p.src, .int .i64 p.dst, .int .i64 p.proto, .int .i64 p.a, .int .i64 p.b, .int .i64 p.kind, .int .i64 p.flags, .int .i64 p.seq, .int .i64 p.ack, .string p.body, .int .i64 (c)]) (.agg #[.int .i64 p.src, .int .i64 p.dst, .int .i64 p.proto, .int .i64 p.a, .int .i64 p.b, .int .i64 p.kind, .int .i64 p.flags, .int .i64 p.seq, .int .i64 p.ack, .string p.body, .int .i64 (c)])).run Tryd.prog W = .ok true W := by
  rw [show (10000 : Nat) = 9999 + 1 from rfl, run_equalIn_struct W 9999 39 _ _ (by kernel_rfl) (by kernel_rfl)]
  unfold Program.fieldsOf
  rw [Tryd.underlying39]
  have hi : ∀ (d : Nat) (x y : Int) (V : World), (Op.equalIn (d + 1) 2 (.int .i64 x) (.int .i64 y)).run Tryd.prog V = .ok (x == y) V := fun d x y V => run_equalIn_int V d 2 .i64 .i64 x y Tryd.underlying2
  have hk := fun V => eqlIn_pk 9996 p V
  rw [show (9996 + 3 : Nat) = 9998 + 1 from rfl] at hk
  rw [show (9999 : Nat) = 9998 + 1 from rfl]
  generalize (9998 : Nat) = D at *
  have q0 : ∀ V : World, (part 35 #[.int .i64 p.src, .int .i64 p.dst, .int .i64 p.proto, .int .i64 p.a, .int .i64 p.b, .int .i64 p.kind, .int .i64 p.flags, .int .i64 p.seq, .int .i64 p.ack, .string p.body, .int .i64 c] 0).run Tryd.prog V = .ok (.agg #[.int .i64 p.src, .int .i64 p.dst, .int .i64 p.proto, .int .i64 p.a, .int .i64 p.b, .int .i64 p.kind, .int .i64 p.flags, .int .i64 p.seq, .int .i64 p.ack, .string p.body]) V := fun _ => by kernel_rfl
  have q1 : ∀ V : World, (part 2 #[.int .i64 p.src, .int .i64 p.dst, .int .i64 p.proto, .int .i64 p.a, .int .i64 p.b, .int .i64 p.kind, .int .i64 p.flags, .int .i64 p.seq, .int .i64 p.ack, .string p.body, .int .i64 c] 10).run Tryd.prog V = .ok (.int .i64 c) V := fun _ => by kernel_rfl
  simp only [Op.eqFields, q0, q1, hi, hk, beq_self_eq_true, Sem.run_ite, Sem.run_bind, Result.andThen_ok, Sem.run_pure, ne_eq, String.reduceEq, not_false_eq_true, if_true, Bool.not_false, Bool.not_true, Bool.false_eq_true, if_false, Bool.and_true, Bool.and_false]
theorem eql_pko (p : Pk) (c : Int) (W : World) : (binOp .eql 39 (.agg #[.int .i64 p.src, .int .i64 p.dst, .int .i64 p.proto, .int .i64 p.a, .int .i64 p.b, .int .i64 p.kind, .int .i64 p.flags, .int .i64 p.seq, .int .i64 p.ack, .string p.body, .int .i64 (c)]) (.agg #[.int .i64 p.src, .int .i64 p.dst, .int .i64 p.proto, .int .i64 p.a, .int .i64 p.b, .int .i64 p.kind, .int .i64 p.flags, .int .i64 p.seq, .int .i64 p.ack, .string p.body, .int .i64 (c)])).run Tryd.prog W = .ok (.bool true) W := by
  rw [run_eql_struct, eqlIn_pko]; rfl
theorem neq_pko (p : Pk) (c : Int) (W : World) : (binOp .neq 39 (.agg #[.int .i64 p.src, .int .i64 p.dst, .int .i64 p.proto, .int .i64 p.a, .int .i64 p.b, .int .i64 p.kind, .int .i64 p.flags, .int .i64 p.seq, .int .i64 p.ack, .string p.body, .int .i64 (c)]) (.agg #[.int .i64 p.src, .int .i64 p.dst, .int .i64 p.proto, .int .i64 p.a, .int .i64 p.b, .int .i64 p.kind, .int .i64 p.flags, .int .i64 p.seq, .int .i64 p.ack, .string p.body, .int .i64 (c)])).run Tryd.prog W = .ok (.bool false) W := by
  rw [run_neq_struct, eqlIn_pko]; rfl
end Go.Proofs.YtokjhfgbnpdfnaaDoor
end
