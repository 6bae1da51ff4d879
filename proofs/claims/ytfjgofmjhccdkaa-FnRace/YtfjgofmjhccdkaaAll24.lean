/- Proved here: laws.lwWalk of two answers that are the same answers true; all old memory stays (conditions: their rows can be read; few numbers; without a code the walker is right). · Proved here: slices.IndexFunc over slots with isFree gives the first free slot, or -1; all old memory stays (conditions: the slots can be read; a few; no Refs below 0). -/
import Derived.Test.YtfjgofmjhccdkaaAll22
import Derived.Test.YtfjgofmjhccdkaaWalkRS
import Derived.Deep.Cut
import Derived.Test.YtfjgofmjhccdkaaSlabI1
import Derived.Test.YtfjgofmjhccdkaaSlabAddS
section
namespace Go.Proofs.Ytfjgofmjhccdkaa
open Go.ChangeShapes Go.WideShapes Go.ChangeAt Go.RowKit
set_option linter.unusedVariables false
set_option linter.unusedSimpArgs false
set_option maxRecDepth 100000

theorem eql_wlk (k : Wlk) (W : World) : (binOp .eql 30 (.agg #[.int .i64 k.key, .int .i64 k.cur, .int .i64 k.stage, .int .i64 k.state, .int .i64 k.slot, .int .i64 k.gen, .int .i64 k.steps]) (.agg #[.int .i64 k.key, .int .i64 k.cur, .int .i64 k.stage, .int .i64 k.state, .int .i64 k.slot, .int .i64 k.gen, .int .i64 k.steps])).run Try.prog W = .ok (.bool true) W := by
  have e : (Op.equalIn 10000 30 (.agg #[.int .i64 k.key, .int .i64 k.cur, .int .i64 k.stage, .int .i64 k.state, .int .i64 k.slot, .int .i64 k.gen, .int .i64 k.steps]) (.agg #[.int .i64 k.key, .int .i64 k.cur, .int .i64 k.stage, .int .i64 k.state, .int .i64 k.slot, .int .i64 k.gen, .int .i64 k.steps])).run Try.prog W = .ok true W := by
    rw [show (10000 : Nat) = 9999 + 1 from rfl, run_equalIn_struct W 9999 30 _ _ (by kernel_rfl) (by kernel_rfl)]
    unfold Program.fieldsOf
    rw [Try.underlying30]
    have hi : ∀ (d : Nat) (x y : Int) (V : World), (Op.equalIn (d + 1) 2 (.int .i64 x) (.int .i64 y)).run Try.prog V = .ok (x == y) V := fun d x y V => run_equalIn_int V d 2 .i64 .i64 x y Try.underlying2
    rw [show (9999 : Nat) = 9998 + 1 from rfl]
    have q0 : ∀ (V : World), (part 2 #[.int .i64 k.key, .int .i64 k.cur, .int .i64 k.stage, .int .i64 k.state, .int .i64 k.slot, .int .i64 k.gen, .int .i64 k.steps] 0).run Try.prog V = .ok (.int .i64 k.key) V := fun _ => by kernel_rfl
    have q1 : ∀ (V : World), (part 2 #[.int .i64 k.key, .int .i64 k.cur, .int .i64 k.stage, .int .i64 k.state, .int .i64 k.slot, .int .i64 k.gen, .int .i64 k.steps] 1).run Try.prog V = .ok (.int .i64 k.cur) V := fun _ => by kernel_rfl
    have q2 : ∀ (V : World), (part 2 #[.int .i64 k.key, .int .i64 k.cur, .int .i64 k.stage, .int .i64 k.state, .int .i64 k.slot, .int .i64 k.gen, .int .i64 k.steps] 2).run Try.prog V = .ok (.int .i64 k.stage) V := fun _ => by kernel_rfl
    have q3 : ∀ (V : World), (part 2 #[.int .i64 k.key, .int .i64 k.cur, .int .i64 k.stage, .int .i64 k.state, .int .i64 k.slot, .int .i64 k.gen, .int .i64 k.steps] 3).run Try.prog V = .ok (.int .i64 k.state) V := fun _ => by kernel_rfl
    have q4 : ∀ (V : World), (part 2 #[.int .i64 k.key, .int .i64 k.cur, .int .i64 k.stage, .int .i64 k.state, .int .i64 k.slot, .int .i64 k.gen, .int .i64 k.steps] 4).run Try.prog V = .ok (.int .i64 k.slot) V := fun _ => by kernel_rfl
    have q5 : ∀ (V : World), (part 2 #[.int .i64 k.key, .int .i64 k.cur, .int .i64 k.stage, .int .i64 k.state, .int .i64 k.slot, .int .i64 k.gen, .int .i64 k.steps] 5).run Try.prog V = .ok (.int .i64 k.gen) V := fun _ => by kernel_rfl
    have q6 : ∀ (V : World), (part 2 #[.int .i64 k.key, .int .i64 k.cur, .int .i64 k.stage, .int .i64 k.state, .int .i64 k.slot, .int .i64 k.gen, .int .i64 k.steps] 6).run Try.prog V = .ok (.int .i64 k.steps) V := fun _ => by kernel_rfl
    generalize (9998 : Nat) = D at *
    have hb : ∀ z : Int, (z == z) = true := fun z => beq_iff_eq.2 rfl
    simp only [Op.eqFields, q0, q1, q2, q3, q4, q5, q6, hi, hb, Sem.run_ite, Sem.run_bind, Result.andThen_ok, Sem.run_pure, ne_eq, String.reduceEq, not_false_eq_true, if_true, Bool.not_false, Bool.not_true, Bool.false_eq_true, if_false, Bool.and_true, Bool.and_false]
  rw [run_eql_struct, e]
  rfl
set_option maxHeartbeats 4000000 in
theorem lwWalk_any (aS aS' aH aH' : Option Addr) (c2 c3 e2 e3 : Nat) (s : Slb) (k : Wlk) (c : Int) (w : World) (hR : SlabZ aS aH s w) (hR' : SlabZ aS' aH' s w) (h1 : s.slots.length ≤ 1048576) (h2 : s.heads.length ≤ 1048576) (hc : c = 0 → wkRight s k = true) :
    Calls Try.prog 11 #[.agg #[.slice aS s.slots.length c2, .slice aH s.heads.length c3, .int .i64 k.key, .int .i64 k.cur, .int .i64 k.stage, .int .i64 k.state, .int .i64 k.slot, .int .i64 k.gen, .int .i64 k.steps, .int .i64 c], .agg #[.slice aS' s.slots.length e2, .slice aH' s.heads.length e3, .int .i64 k.key, .int .i64 k.cur, .int .i64 k.stage, .int .i64 k.state, .int .i64 k.slot, .int .i64 k.gen, .int .i64 k.steps, .int .i64 c]] w fun e w' => e = .returned (.bool true) ∧ Below w.heap.size w w' := by
  have HL := hidS (fun W (h : Below w.heap.size w W) => lwSlab_any aS aS' aH aH' c2 c3 e2 e3 s W (hR.later h) (hR'.later h) h1 h2)
  have HS := hidS (fun W (h : Below w.heap.size w W) => specWalkRight_any aS aH c2 c3 s k W (hR.later h) h1 h2)
  clear hR hR'
  by_cases h0 : c = 0
  · have hn : (c != 0) = false := by rw [h0]; rfl
    rw [hc h0] at HS
    clear h0 hc
    have hGA0 : Hid (((w.alloc (.cells #[.slice aS s.slots.length c2, .slice aH s.heads.length c3, .int .i64 k.key, .int .i64 k.cur, .int .i64 k.stage, .int .i64 k.state, .int .i64 k.slot, .int .i64 k.gen, .int .i64 k.steps, .int .i64 c] 32)).alloc (.cells #[.slice aS' s.slots.length e2, .slice aH' s.heads.length e3, .int .i64 k.key, .int .i64 k.cur, .int .i64 k.stage, .int .i64 k.state, .int .i64 k.slot, .int .i64 k.gen, .int .i64 k.steps, .int .i64 c] 32)).heap[w.heap.size]? = some (.cells #[.slice aS s.slots.length c2, .slice aH s.heads.length c3, .int .i64 k.key, .int .i64 k.cur, .int .i64 k.stage, .int .i64 k.state, .int .i64 k.slot, .int .i64 k.gen, .int .i64 k.steps, .int .i64 c] 32)) := by
      show _ = _
      have := blk_alloc (heap_newG w (.cells #[.slice aS s.slots.length c2, .slice aH s.heads.length c3, .int .i64 k.key, .int .i64 k.cur, .int .i64 k.stage, .int .i64 k.state, .int .i64 k.slot, .int .i64 k.gen, .int .i64 k.steps, .int .i64 c] 32)) (.cells #[.slice aS' s.slots.length e2, .slice aH' s.heads.length e3, .int .i64 k.key, .int .i64 k.cur, .int .i64 k.stage, .int .i64 k.state, .int .i64 k.slot, .int .i64 k.gen, .int .i64 k.steps, .int .i64 c] 32)
      simpa using this
    have hGU0 : Hid (((w.alloc (.cells #[.slice aS s.slots.length c2, .slice aH s.heads.length c3, .int .i64 k.key, .int .i64 k.cur, .int .i64 k.stage, .int .i64 k.state, .int .i64 k.slot, .int .i64 k.gen, .int .i64 k.steps, .int .i64 c] 32)).alloc (.cells #[.slice aS' s.slots.length e2, .slice aH' s.heads.length e3, .int .i64 k.key, .int .i64 k.cur, .int .i64 k.stage, .int .i64 k.state, .int .i64 k.slot, .int .i64 k.gen, .int .i64 k.steps, .int .i64 c] 32)).heap[w.heap.size + 1]? = some (.cells #[.slice aS' s.slots.length e2, .slice aH' s.heads.length e3, .int .i64 k.key, .int .i64 k.cur, .int .i64 k.stage, .int .i64 k.state, .int .i64 k.slot, .int .i64 k.gen, .int .i64 k.steps, .int .i64 c] 32)) := by
      show _ = _
      have := heap_newG (w.alloc (.cells #[.slice aS s.slots.length c2, .slice aH s.heads.length c3, .int .i64 k.key, .int .i64 k.cur, .int .i64 k.stage, .int .i64 k.state, .int .i64 k.slot, .int .i64 k.gen, .int .i64 k.steps, .int .i64 c] 32)) (.cells #[.slice aS' s.slots.length e2, .slice aH' s.heads.length e3, .int .i64 k.key, .int .i64 k.cur, .int .i64 k.stage, .int .i64 k.state, .int .i64 k.slot, .int .i64 k.gen, .int .i64 k.steps, .int .i64 c] 32)
      simpa using this
    have hL0 := hidS (((Below.refl w.heap.size w).alloc (Nat.le_refl _) (.cells #[.slice aS s.slots.length c2, .slice aH s.heads.length c3, .int .i64 k.key, .int .i64 k.cur, .int .i64 k.stage, .int .i64 k.state, .int .i64 k.slot, .int .i64 k.gen, .int .i64 k.steps, .int .i64 c] 32)).alloc (by simp) (.cells #[.slice aS' s.slots.length e2, .slice aH' s.heads.length e3, .int .i64 k.key, .int .i64 k.cur, .int .i64 k.stage, .int .i64 k.state, .int .i64 k.slot, .int .i64 k.gen, .int .i64 k.steps, .int .i64 c] 32))
    go_enter Try.func11, Try.ntmps11
    go_upto_region 1 with fail
    generalize ((w.alloc (.cells #[.slice aS s.slots.length c2, .slice aH s.heads.length c3, .int .i64 k.key, .int .i64 k.cur, .int .i64 k.stage, .int .i64 k.state, .int .i64 k.slot, .int .i64 k.gen, .int .i64 k.steps, .int .i64 c] 32)).alloc (.cells #[.slice aS' s.slots.length e2, .slice aH' s.heads.length e3, .int .i64 k.key, .int .i64 k.cur, .int .i64 k.stage, .int .i64 k.state, .int .i64 k.slot, .int .i64 k.gen, .int .i64 k.steps, .int .i64 c] 32)) = w0 at hGA0 hGU0 hL0 ⊢
    have hE := eql_wlk k w0
    have cA0 := blk_cell hGA0.out 0
    have cA1 := blk_cell hGA0.out 1
    have cA2 := blk_cell hGA0.out 2
    have cA3 := blk_cell hGA0.out 3
    have cA4 := blk_cell hGA0.out 4
    have cA5 := blk_cell hGA0.out 5
    have cA6 := blk_cell hGA0.out 6
    have cA7 := blk_cell hGA0.out 7
    have cA8 := blk_cell hGA0.out 8
    have cA9 := blk_cell hGA0.out 9
    simp at cA0 cA1 cA2 cA3 cA4 cA5 cA6 cA7 cA8 cA9
    have cU0 := blk_cell hGU0.out 0
    have cU1 := blk_cell hGU0.out 1
    have cU2 := blk_cell hGU0.out 2
    have cU3 := blk_cell hGU0.out 3
    have cU4 := blk_cell hGU0.out 4
    have cU5 := blk_cell hGU0.out 5
    have cU6 := blk_cell hGU0.out 6
    have cU7 := blk_cell hGU0.out 7
    have cU8 := blk_cell hGU0.out 8
    have cU9 := blk_cell hGU0.out 9
    simp at cU0 cU1 cU2 cU3 cU4 cU5 cU6 cU7 cU8 cU9
    go_wp2_with fail
    refine (HL.out _ hL0.out).mono ?_
    rintro _ w1 ⟨rfl, hb1⟩
    clear cA0 cA1 cA2 cA3 cA4 cA5 cA6 cA7 cA8 cA9 cU0 cU1 cU2 cU3 cU4 cU5 cU6 cU7 cU8 cU9 hE
    have hGA1 := hidS (blk_later hGA0.out hb1)
    have hGU1 := hidS (blk_later hGU0.out hb1)
    have hL1 := hidS (hL0.out.trans (hb1.mono hL0.out.size))
    clear hb1 hL0 hGA0 hGU0
    have cA0 := blk_cell hGA1.out 0
    have cA1 := blk_cell hGA1.out 1
    have cA2 := blk_cell hGA1.out 2
    have cA3 := blk_cell hGA1.out 3
    have cA4 := blk_cell hGA1.out 4
    have cA5 := blk_cell hGA1.out 5
    have cA6 := blk_cell hGA1.out 6
    have cA7 := blk_cell hGA1.out 7
    have cA8 := blk_cell hGA1.out 8
    have cA9 := blk_cell hGA1.out 9
    simp at cA0 cA1 cA2 cA3 cA4 cA5 cA6 cA7 cA8 cA9
    go_wp2_with fail
    refine (HS.out _ hL1.out).mono ?_
    rintro _ w2 ⟨rfl, hb2⟩
    clear cA0 cA1 cA2 cA3 cA4 cA5 cA6 cA7 cA8 cA9
    have hGA2 := hidS (blk_later hGA1.out hb2)
    have hGU2 := hidS (blk_later hGU1.out hb2)
    have hL2 := hidS (hL1.out.trans (hb2.mono hL1.out.size))
    clear hb2 hL1 hGA1 hGU1
    go_wp2_with fail
    go_ret
    exact ⟨rfl, hL2.out⟩
  · have hn : (c != 0) = true := bne_iff_ne.2 h0
    clear h0 hc
    have hGA0 : Hid (((w.alloc (.cells #[.slice aS s.slots.length c2, .slice aH s.heads.length c3, .int .i64 k.key, .int .i64 k.cur, .int .i64 k.stage, .int .i64 k.state, .int .i64 k.slot, .int .i64 k.gen, .int .i64 k.steps, .int .i64 c] 32)).alloc (.cells #[.slice aS' s.slots.length e2, .slice aH' s.heads.length e3, .int .i64 k.key, .int .i64 k.cur, .int .i64 k.stage, .int .i64 k.state, .int .i64 k.slot, .int .i64 k.gen, .int .i64 k.steps, .int .i64 c] 32)).heap[w.heap.size]? = some (.cells #[.slice aS s.slots.length c2, .slice aH s.heads.length c3, .int .i64 k.key, .int .i64 k.cur, .int .i64 k.stage, .int .i64 k.state, .int .i64 k.slot, .int .i64 k.gen, .int .i64 k.steps, .int .i64 c] 32)) := by
      show _ = _
      have := blk_alloc (heap_newG w (.cells #[.slice aS s.slots.length c2, .slice aH s.heads.length c3, .int .i64 k.key, .int .i64 k.cur, .int .i64 k.stage, .int .i64 k.state, .int .i64 k.slot, .int .i64 k.gen, .int .i64 k.steps, .int .i64 c] 32)) (.cells #[.slice aS' s.slots.length e2, .slice aH' s.heads.length e3, .int .i64 k.key, .int .i64 k.cur, .int .i64 k.stage, .int .i64 k.state, .int .i64 k.slot, .int .i64 k.gen, .int .i64 k.steps, .int .i64 c] 32)
      simpa using this
    have hGU0 : Hid (((w.alloc (.cells #[.slice aS s.slots.length c2, .slice aH s.heads.length c3, .int .i64 k.key, .int .i64 k.cur, .int .i64 k.stage, .int .i64 k.state, .int .i64 k.slot, .int .i64 k.gen, .int .i64 k.steps, .int .i64 c] 32)).alloc (.cells #[.slice aS' s.slots.length e2, .slice aH' s.heads.length e3, .int .i64 k.key, .int .i64 k.cur, .int .i64 k.stage, .int .i64 k.state, .int .i64 k.slot, .int .i64 k.gen, .int .i64 k.steps, .int .i64 c] 32)).heap[w.heap.size + 1]? = some (.cells #[.slice aS' s.slots.length e2, .slice aH' s.heads.length e3, .int .i64 k.key, .int .i64 k.cur, .int .i64 k.stage, .int .i64 k.state, .int .i64 k.slot, .int .i64 k.gen, .int .i64 k.steps, .int .i64 c] 32)) := by
      show _ = _
      have := heap_newG (w.alloc (.cells #[.slice aS s.slots.length c2, .slice aH s.heads.length c3, .int .i64 k.key, .int .i64 k.cur, .int .i64 k.stage, .int .i64 k.state, .int .i64 k.slot, .int .i64 k.gen, .int .i64 k.steps, .int .i64 c] 32)) (.cells #[.slice aS' s.slots.length e2, .slice aH' s.heads.length e3, .int .i64 k.key, .int .i64 k.cur, .int .i64 k.stage, .int .i64 k.state, .int .i64 k.slot, .int .i64 k.gen, .int .i64 k.steps, .int .i64 c] 32)
      simpa using this
    have hL0 := hidS (((Below.refl w.heap.size w).alloc (Nat.le_refl _) (.cells #[.slice aS s.slots.length c2, .slice aH s.heads.length c3, .int .i64 k.key, .int .i64 k.cur, .int .i64 k.stage, .int .i64 k.state, .int .i64 k.slot, .int .i64 k.gen, .int .i64 k.steps, .int .i64 c] 32)).alloc (by simp) (.cells #[.slice aS' s.slots.length e2, .slice aH' s.heads.length e3, .int .i64 k.key, .int .i64 k.cur, .int .i64 k.stage, .int .i64 k.state, .int .i64 k.slot, .int .i64 k.gen, .int .i64 k.steps, .int .i64 c] 32))
    go_enter Try.func11, Try.ntmps11
    go_upto_region 1 with fail
    generalize ((w.alloc (.cells #[.slice aS s.slots.length c2, .slice aH s.heads.length c3, .int .i64 k.key, .int .i64 k.cur, .int .i64 k.stage, .int .i64 k.state, .int .i64 k.slot, .int .i64 k.gen, .int .i64 k.steps, .int .i64 c] 32)).alloc (.cells #[.slice aS' s.slots.length e2, .slice aH' s.heads.length e3, .int .i64 k.key, .int .i64 k.cur, .int .i64 k.stage, .int .i64 k.state, .int .i64 k.slot, .int .i64 k.gen, .int .i64 k.steps, .int .i64 c] 32)) = w0 at hGA0 hGU0 hL0 ⊢
    have hE := eql_wlk k w0
    have cA0 := blk_cell hGA0.out 0
    have cA1 := blk_cell hGA0.out 1
    have cA2 := blk_cell hGA0.out 2
    have cA3 := blk_cell hGA0.out 3
    have cA4 := blk_cell hGA0.out 4
    have cA5 := blk_cell hGA0.out 5
    have cA6 := blk_cell hGA0.out 6
    have cA7 := blk_cell hGA0.out 7
    have cA8 := blk_cell hGA0.out 8
    have cA9 := blk_cell hGA0.out 9
    simp at cA0 cA1 cA2 cA3 cA4 cA5 cA6 cA7 cA8 cA9
    have cU0 := blk_cell hGU0.out 0
    have cU1 := blk_cell hGU0.out 1
    have cU2 := blk_cell hGU0.out 2
    have cU3 := blk_cell hGU0.out 3
    have cU4 := blk_cell hGU0.out 4
    have cU5 := blk_cell hGU0.out 5
    have cU6 := blk_cell hGU0.out 6
    have cU7 := blk_cell hGU0.out 7
    have cU8 := blk_cell hGU0.out 8
    have cU9 := blk_cell hGU0.out 9
    simp at cU0 cU1 cU2 cU3 cU4 cU5 cU6 cU7 cU8 cU9
    go_wp2_with fail
    refine (HL.out _ hL0.out).mono ?_
    rintro _ w1 ⟨rfl, hb1⟩
    clear cA0 cA1 cA2 cA3 cA4 cA5 cA6 cA7 cA8 cA9 cU0 cU1 cU2 cU3 cU4 cU5 cU6 cU7 cU8 cU9 hE
    have hGA1 := hidS (blk_later hGA0.out hb1)
    have hGU1 := hidS (blk_later hGU0.out hb1)
    have hL1 := hidS (hL0.out.trans (hb1.mono hL0.out.size))
    clear hb1 hL0 hGA0 hGU0
    have cA0 := blk_cell hGA1.out 0
    have cA1 := blk_cell hGA1.out 1
    have cA2 := blk_cell hGA1.out 2
    have cA3 := blk_cell hGA1.out 3
    have cA4 := blk_cell hGA1.out 4
    have cA5 := blk_cell hGA1.out 5
    have cA6 := blk_cell hGA1.out 6
    have cA7 := blk_cell hGA1.out 7
    have cA8 := blk_cell hGA1.out 8
    have cA9 := blk_cell hGA1.out 9
    simp at cA0 cA1 cA2 cA3 cA4 cA5 cA6 cA7 cA8 cA9
    go_wp2_with fail
    go_ret
    exact ⟨rfl, hL1.out⟩
end Go.Proofs.Ytfjgofmjhccdkaa
end

section
namespace Go.Proofs.Ytfjgofmjhccdkaa
open Go.ChangeShapes Go.WideShapes Go.ChangeAt Go.RowKit
set_option linter.unusedVariables false
set_option linter.unusedSimpArgs false
set_option maxRecDepth 100000

/-- the first free slot, or -1 -/
def freeI (ss : List Slt) : Int := if freeK ss < ss.length then (freeK ss : Int) else -1
set_option maxHeartbeats 2000000 in
theorem indexFree_any (bS oS cS : Nat) (ss : List Slt) (w : World) (hR : RowZ (some ⟨bS, oS, none⟩) (flat ss) w) (hl : ss.length ≤ 1000) (hp : ∀ i, i < ss.length → 0 ≤ (ss.getD i zeroSlt).refs) :
    Calls Try.prog 73 #[.slice (some ⟨bS, oS, none⟩) ss.length cS, .func (.func 69) #[] #[]] w fun e w' => e = .returned (.int .i64 (freeI ss)) ∧ Below w.heap.size w w' := by
  have HR := hidS hR
  have HP := hidS hp
  clear hR hp
  have hL0 := hidS (Below.refl w.heap.size w)
  go_enter Try.func73, Try.ntmps73
  go_wp2_with fail
  go_loopw [8] (fun i wr => ∃ k : Nat, i = .int .i64 (k : Int) ∧ k ≤ ss.length ∧ freeK ss = k + freeK (ss.drop k) ∧ Below w.heap.size w wr) (fun i _ => (ss.length - (intOf i).toNat))
  case atStart => exact ⟨0, rfl, Nat.zero_le _, by simp, hL0.out⟩
  case round =>
    obtain ⟨k, rfl, hk, hfk, hb⟩ := hrel
    have HB := hidS hb
    have HFK := hidS hfk
    clear hL0 hb hfk
    by_cases hlt : ¬ k < ss.length
    · have e : k = ss.length := by omega
      subst e
      have EF : Hid (freeI ss = -1) := by
        show _ = _
        have := HFK.out
        rw [List.drop_length] at this
        have e : freeK ss = ss.length := by simpa [freeK] using this
        unfold freeI
        rw [e, if_neg (by omega)]
      have hge : ¬ (ss.length : Int) < (ss.length : Int) := by omega
      clear hlt
      go_wp2_with fail
      go_ret
      exact ⟨by rw [EF.out]; rfl, HB.out⟩
    have hlt := Classical.not_not.1 hlt
    have hkk : (0 : Int) ≤ (k : Int) ∧ (k : Int) < (ss.length : Int) := by omega
    obtain ⟨b', o', eS, lS, c0, c1, c2, c3⟩ := (HR.out.later HB.out).slot hlt
    injection eS with eS; injection eS with eS1 eS2
    subst eS1 eS2
    have hp := HP.out k hlt
    obtain ⟨x, hx⟩ : ∃ x, ss.getD k zeroSlt = x := ⟨_, rfl⟩
    rw [hx] at c0 c1 c2 c3 hp
    have HX := hidS hx
    clear hx
    have HF := hidS (fun W => isFree_any x W)
    by_cases h0 : x.refs = 0
    · rw [decide_eq_true h0] at HF
      have EF : Hid (freeI ss = (k : Int)) := by
        show _ = _
        have := HFK.out
        rw [free_free hlt (by rw [HX.out]; omega)] at this
        unfold freeI
        rw [if_pos (by omega)]
        omega
      clear h0
      go_wp2_with fail
      refine (HF.out _).mono ?_
      rintro _ w2 ⟨rfl, hb2⟩
      have hB2 := hidS (HB.out.trans (hb2.mono HB.out.size))
      clear hb2
      go_wp2_with fail
      go_ret
      exact ⟨by rw [EF.out]; rfl, hB2.out⟩
    · rw [decide_eq_false h0] at HF
      have HFN : Hid (freeK ss = k + 1 + freeK (ss.drop (k + 1))) := by
        show _ = _
        have := HFK.out
        rw [free_held hlt (by rw [HX.out]; omega)] at this
        omega
      clear h0
      go_wp2_with fail
      refine (HF.out _).mono ?_
      rintro _ w2 ⟨rfl, hb2⟩
      have hB2 := hidS (HB.out.trans (hb2.mono HB.out.size))
      clear hb2
      go_wp2_with fail
      go_roundw
      case rel => exact ⟨k + 1, by simp, by omega, HFN.out, hB2.out⟩
      case measure => simp [intOf]; omega
end Go.Proofs.Ytfjgofmjhccdkaa
end
