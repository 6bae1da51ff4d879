/- Proved here: spec.l03Tail answers what is behind the head of a right packet (no conditions but that it is right, and a check is a word). -/
import Derived.Test.YtokjhfgbnpdfnafDoorTail
namespace Go.Proofs.YtokjhfgbnpdfnafDoor
open Go.ChangeShapes Go.WideShapes Go.ChangeAt Go.RowKit
set_option linter.unusedVariables false
set_option maxRecDepth 100000

/-- what a right packet's numbers are within -/
structure Fine (p : Pk) : Prop where
  src : addrB p.src = true
  dst : addrB p.dst = true
  proto : p.proto = 6 ∨ p.proto = 17 ∨ p.proto = 1
  a : wordB p.a = true
  b : wordB p.b = true
  flags : flagB p.flags = true
  seq : addrB p.seq = true
  seqW : p.proto = 1 → wordB p.seq = true
  ack : addrB p.ack = true
  kind0 : 0 ≤ p.kind
  kind1 : p.kind ≤ 8
  body : p.body.size ≤ 100
theorem word_addr {z : Int} (h : wordB z = true) : addrB z = true := addrB_iff.2 (by have := wordB_iff.1 h; omega)
theorem fine_of {p : Pk} (h : rightB p = true) : Fine p := by
  unfold rightB at h
  simp only [Bool.and_eq_true, decide_eq_true_eq] at h
  obtain ⟨⟨⟨h1, h2⟩, h3⟩, h4⟩ := h
  have z0 : wordB 0 = true := rfl
  have y0 : addrB 0 = true := rfl
  have x0 : flagB 0 = true := rfl
  by_cases p6 : p.proto = 6
  · rw [if_pos p6] at h4
    simp only [tcpB, Bool.and_eq_true, decide_eq_true_eq] at h4
    obtain ⟨⟨⟨⟨⟨ha, hb⟩, hk⟩, hf⟩, hq⟩, hc⟩ := h4
    exact ⟨h1, h2, .inl p6, ha, hb, hf, hq, fun e => absurd (p6.symm.trans e) (by decide), hc, by omega, by omega, h3⟩
  · rw [if_neg p6] at h4
    by_cases p17 : p.proto = 17
    · rw [if_pos p17] at h4
      simp only [udpB, Bool.and_eq_true, decide_eq_true_eq] at h4
      obtain ⟨⟨⟨⟨⟨ha, hb⟩, hk⟩, hf⟩, hq⟩, hc⟩ := h4
      exact ⟨h1, h2, .inr (.inl p17), ha, hb, by rw [hf]; rfl, by rw [hq]; rfl, fun e => absurd (p17.symm.trans e) (by decide), by rw [hc]; rfl, by omega, by omega, h3⟩
    · rw [if_neg p17] at h4
      by_cases p1 : p.proto = 1
      · rw [if_pos p1] at h4
        simp only [pingB, Bool.and_eq_true, decide_eq_true_eq] at h4
        obtain ⟨⟨⟨hb, hf⟩, hc⟩, hr⟩ := h4
        by_cases k3 : p.kind = 3
        · rw [if_pos k3] at hr
          simp only [Bool.and_eq_true, decide_eq_true_eq] at hr
          obtain ⟨⟨ha, hq⟩, hz⟩ := hr
          exact ⟨h1, h2, .inr (.inr p1), by rw [ha]; rfl, by rw [hb]; rfl, by rw [hf]; rfl, by rw [hq]; rfl, fun _ => by rw [hq]; rfl, by rw [hc]; rfl, by omega, by omega, h3⟩
        · rw [if_neg k3] at hr
          simp only [Bool.and_eq_true, Bool.or_eq_true, decide_eq_true_eq] at hr
          obtain ⟨⟨hk, ha⟩, hq⟩ := hr
          exact ⟨h1, h2, .inr (.inr p1), ha, by rw [hb]; rfl, by rw [hf]; rfl, word_addr hq, fun _ => hq, by rw [hc]; rfl, by omega, by omega, h3⟩
      · rw [if_neg p1] at h4; cases h4
theorem Fine.small {p : Pk} (h : Fine p) (c : Nat) : (tailT p c).size ≤ 120 := by
  have hb := h.body
  unfold tailT
  split
  · simp only [ByteArray.size_append, twoT_size, fourT_size, rowT_size, List.length_cons, List.length_nil]
    have : (⟨#[0, 0]⟩ : ByteArray).size = 2 := rfl
    omega
  · split
    · simp only [ByteArray.size_append, twoT_size]; omega
    · split <;> simp only [ByteArray.size_append, twoT_size, rowT_size, List.length_cons, List.length_nil] <;> omega

theorem l03Tail_any (p : Pk) (c : Nat) (w : World) (h : Fine p) (hc : c ≤ 65535) :
    Calls Tryd.prog 26 #[.agg #[.int .i64 p.src, .int .i64 p.dst, .int .i64 p.proto, .int .i64 p.a, .int .i64 p.b, .int .i64 p.kind, .int .i64 p.flags, .int .i64 p.seq, .int .i64 p.ack, .string p.body], .int .i64 (c : Int)] w fun e w' => e = .returned (.string (tailT p c)) ∧ Below w.heap.size w w' := by
  have hb := h.body
  rcases h.proto with h6 | h17 | h1
  · exact l03Tail_tcp p c w h6 hc h.a h.b h.flags h.seq h.ack (by omega)
  · exact l03Tail_udp p c w h17 hc h.a h.b (by omega)
  · have := h.kind1
    by_cases h3 : p.kind = 3
    · exact l03Tail_err p c w h1 hc h.a (h.seqW h1) h.kind0 (by omega) h3 (by omega)
    · exact l03Tail_echo p c w h1 hc h.a (h.seqW h1) h.kind0 (by omega) h3 (by omega)
end Go.Proofs.YtokjhfgbnpdfnafDoor
