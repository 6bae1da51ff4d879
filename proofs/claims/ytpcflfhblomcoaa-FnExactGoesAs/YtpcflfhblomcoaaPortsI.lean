/- Proved here: impl.portsOf's own function hands each port of a rule once to whatever body, from where start comes to stand (conditions: a right rule, a time). -/
import Derived.RangeFuncBox
import Derived.RangeFuncLeaves
import Derived.Shelf.Abstract
import Derived.WalkKit
import Derived.OwnWalkIn
import Derived.TacticsInMore
import Derived.RegionIn
import Derived.LoopNIn
import Derived.LoopIn
import Derived.Test.YtpcflfhblomcoaaGoesRight
import Derived.Test.YtpcflfhblomcoaaBlk
import Derived.Test.YtpcflfhblomcoaaReadsIn
namespace Go.Proofs.Ytpcflfhblomcoaa
open Go.RowKit Go.Shelf
set_option linter.unusedVariables false
set_option linter.unusedSimpArgs false
set_option maxRecDepth 100000
attribute [local go_sem] Oper.semAt_some

/-- what has come when k rounds are over -/
def upF {α : Type} (f : Nat → α) (k : Nat) : List α := (List.range k).map f
theorem upF_succ {α : Type} (f : Nat → α) (k : Nat) : upF f (k + 1) = upF f k ++ [f k] := by simp [upF, List.range_succ]
theorem upF_length {α : Type} (f : Nat → α) (k : Nat) : (upF f k).length = k := by simp [upF]

set_option maxHeartbeats 2000000 in
theorem ports1_in (F : Fence) (n : Nat) (hfa : ∀ f, F.fn f) (hf : F.fn 144) (hro : F.round = none) (hn : 1 ≤ n) (lr Bm Bs Bq n₀ N : Nat) (s : Rl) (start : Int) (hsr : rightR s = true) (hs0 : 0 ≤ start) (hs1 : start ≤ 1000000) (hN : (N : Int) = manyR s) (b1 : Bm < n₀) (b2 : Bs < n₀) (b3 : Bq < n₀)
    (J Jx : List Int → World → Prop) (hJd : ∀ pre W, J pre W → J pre W.drew)
    (hY : ∀ pre x W, J pre W → pre.length < N → YieldAt F (n - 1) Try.prog lr #[.int .i64 x] W fun e W' =>
      (e = .returned (.bool true) ∧ J (pre ++ [x]) W' ∧ Below n₀ W W') ∨ (e = .returned (.bool false) ∧ Jx (pre ++ [x]) W'))
    (W : World) (hm : W.heap[Bm]? = some (.cells #[.int .i64 (N : Int)] 2)) (hs : W.heap[Bs]? = some (.cells #[.int .i64 s.kind, .int .i64 s.proto, .int .i64 s.net, .int .i64 s.bits, .int .i64 s.goal, .int .i64 s.low, .int .i64 s.high] 64)) (hq : W.heap[Bq]? = some (.cells #[.int .i64 start] 2)) (h0 : J [] W) :
    CallsIn F n Try.prog 144 #[.func (.yield lr) #[] #[], .pointer (some ⟨Bm, 0, none⟩), .pointer (some ⟨Bs, 0, none⟩), .pointer (some ⟨Bq, 0, none⟩)] W fun e W' => (∃ v, e = .returned v) ∧
      ((∃ ys, ys = upF (fun k : Nat => portN s start k) N ∧ J ys W') ∨ (∃ pre, (∃ k, k ≤ N ∧ pre = upF (fun k : Nat => portN s start k) k) ∧ Jx pre W')) := by
  have cm := blk_cell hm 0
  simp at cm
  have hmb := hN ▸ many_bd hsr
  obtain ⟨_, _, _, _, w1', w2', w3', _⟩ := right_parts hsr
  have w4 := word_iff.1 w1'
  have w5 := word_iff.1 w2'
  have HPN : ∀ k : Nat, portN s start k = s.low + (start + (k : Int)) % (N : Int) := fun k => by unfold portN; rw [hN]
  have HP := HPN
  clear w1' w2' HPN
  replace hN := hidS hN
  refine callsIn_of_wp Try.func144 rfl hf ?_ hro
  simp only [Try.ntmps144, List.size_toArray, List.length_cons, List.length_nil, Nat.reduceAdd, Nat.reduceSub, Array.replicate_succ, Array.replicate_zero, List.push_toArray, List.append_toArray, List.nil_append, List.cons_append]
  gi_wp2
  gi_loopw [7] (fun i wr => ∃ k : Nat, k ≤ N ∧ i = .int .i64 (k : Int) ∧ J (upF (fun k : Nat => portN s start k) k) wr ∧ Below n₀ W wr) (fun i _ => N - (intOf i).toNat)
  case atStart => exact ⟨0, Nat.zero_le _, rfl, h0, Below.refl _ _⟩
  case round =>
    obtain ⟨k, hk, rfl, hJs, hnx⟩ := hrel
    by_cases hlt : k < N
    · have hlt' : (k : Int) < (N : Int) := by omega
      have k3 : (N : Int) ≠ 0 := by omega
      have k4 := Int.emod_nonneg (start + (k : Int)) k3
      have k5 := Int.emod_lt_of_pos (start + (k : Int)) (show 0 < (N : Int) by omega)
      have k1 : 0 ≤ start + (k : Int) := by omega
      have gm := blk_cell ((hnx.drew.block _ b1).trans hm) 0
      have gq := blk_cell ((hnx.drew.block _ b3).trans hq) 0
      have g5 := blk_cell ((hnx.drew.block _ b2).trans hs) 5
      simp at gm gq g5
      have hx1 : IntKind.i64.wrap (start + (k : Int)) = start + (k : Int) := IntWalk.i64_in _ (by omega)
      have hx3 : IntKind.i64.wrap (s.low + (start + (k : Int)) % (N : Int)) = s.low + (start + (k : Int)) % (N : Int) := IntWalk.i64_in _ (by omega)
      gi_wp2
      refine quiet_chain 9 2 (fun j => match j with | 0 => .func (.yield lr) #[] #[] | 1 => .pointer (some ⟨Bs, 5, none⟩) | 2 => .int .i64 s.low | 3 => .int .i64 start | 4 => .int .i64 (k : Int) | 5 => .int .i64 (start + (k : Int)) | 6 => .int .i64 (N : Int) | 7 => .int .i64 ((start + (k : Int)) % (N : Int)) | _ => .int .i64 (s.low + (start + (k : Int)) % (N : Int))) (fun V => V = wr.drew) hfa rfl (by kernel_rfl) (by kernel_rfl) (by kernel_rfl) (by kernel_rfl) rfl ?reads ?rest
      case reads =>
        intro j o hj ho
        obtain rfl | rfl | rfl | rfl | rfl | rfl | rfl | rfl | rfl : j = 0 ∨ j = 1 ∨ j = 2 ∨ j = 3 ∨ j = 4 ∨ j = 5 ∨ j = 6 ∨ j = 7 ∨ j = 8 := by omega
        all_goals
          injection ho with ho
          subst ho
          refine ⟨rfl, (fun c h => by cases h), ?_⟩
          rintro _ rfl
          left
          simp [upto, Act.put, execOp, go_sem]
          first | done | (simp [gm, gq, g5, hx1, hx3, k3]; done) | (rw [if_neg (by omega), Int.tmod_eq_emod_of_nonneg k1])
      case rest =>
        rintro _ rfl
        obtain ⟨fn, tmps, assign, body, hy, hR⟩ := hY _ (s.low + (start + (k : Int)) % (N : Int)) wr.drew (hJd _ _ hJs) (by rw [upF_length]; exact hlt)
        simp only [List.range', wpOpsIn_cons]
        unfold wpOpIn
        simp [upto, Act.put, Region.wanted, Oper.wpIn, hro, execOp, go_sem, hy]
        refine ⟨fun _ => hn, hR.mono ?_⟩
        rintro e W3 (⟨rfl, hJ3, hk3⟩ | ⟨rfl, hJx3⟩)
        · simp only [wpOpsIn_cons]
          unfold wpOpIn
          simp [Act.put, Region.wanted, Oper.wpIn, hro, execOp, go_sem]
          simp only [wpOpsIn]
          gi_wp2
          go_roundw
          case rel => exact ⟨k + 1, by omega, by simp, by rw [upF_succ, HP k]; exact hJ3, hnx.drew.trans hk3⟩
          case measure => simp [intOf]; omega
        · simp only [wpOpsIn_cons]
          unfold wpOpIn
          simp [Act.put, Region.wanted, Oper.wpIn, hro, execOp, go_sem]
          simp only [wpOpsIn]
          gi_wp2
          refine bodyPost_ret (results_none rfl _ _ _) rfl ?_
          exact ⟨⟨_, rfl⟩, .inr ⟨_, ⟨k + 1, by omega, by rw [upF_succ, HP k]⟩, hJx3⟩⟩
    · obtain rfl : k = N := by omega
      gi_wp2
      go_end0
      exact ⟨⟨_, rfl⟩, .inl ⟨_, rfl, hJs⟩⟩
end Go.Proofs.Ytpcflfhblomcoaa
