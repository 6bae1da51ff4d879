/- Proved here: spec.l08Rules draws at most seven rules, in memory of its own; all old blocks but the source's stay (condition: the source lies in its block). -/
import Derived.Test.YtilajoafppplcaaAll6
import Derived.Test.YtilajoafppplcaaDrawRuleR
namespace Go.Proofs.Ytilajoafppplcaa
open Go.ChangeShapes Go.WideShapes Go.ChangeAt Go.RowKit
set_option linter.unusedVariables false
set_option linter.unusedSimpArgs false
set_option maxRecDepth 100000

def valR (rs : List Rl) : List Value := (flatRule rs).map (.int .i64)
theorem flatRule_snoc (r : Rl) : ∀ rs : List Rl, flatRule (rs ++ [r]) = flatRule rs ++ [r.kind, r.proto, r.net, r.bits, r.goal, r.low, r.high]
  | [] => rfl
  | s :: ss => by simp [flatRule, flatRule_snoc r ss]
theorem valR_snoc (r : Rl) (rs : List Rl) : valR (rs ++ [r]) = valR rs ++ [.int .i64 r.kind, .int .i64 r.proto, .int .i64 r.net, .int .i64 r.bits, .int .i64 r.goal, .int .i64 r.low, .int .i64 r.high] := by simp [valR, flatRule_snoc]
def lenV : Value → Nat
  | .slice _ n _ => n
  | _ => 0
/-- rules in the making -/
def SomeRs (B : Nat) (a : Option Addr) (len cap : Nat) (w0 : World) (v : Value) (W : World) : Prop := ∃ aa cc rs, v = .slice aa (rs : List Rl).length cc ∧ rs.length ≤ 7 ∧ OwnS B a len cap w0 64 7 (.slice aa rs.length cc) rs.length (valR rs) W
set_option maxHeartbeats 4000000 in
theorem srcRules_any (B : Nat) (a : Option Addr) (len cap : Nat) (w : World) (hS : Src B a len cap w) :
    Calls Try.prog 64 #[.pointer (some ⟨B, 0, none⟩)] w fun e w' => ∃ v, e = .returned v ∧ SomeRs B a len cap w v w' := by
  have lS := hS.lt
  obtain ⟨i0, hi, hz⟩ := Option.map_eq_some_iff.1 (show (Try.prog.info? 64).map (fun i => (i.zero, i.size, i.bytes)) = some (some (.agg #[.int .i64 0, .int .i64 0, .int .i64 0, .int .i64 0, .int .i64 0, .int .i64 0, .int .i64 0]), 7, 56) by kernel_rfl)
  simp only [Prod.mk.injEq] at hz
  obtain ⟨hz0, hz1, hz2⟩ := hz
  have HI := hidS hi
  clear hi
  go_enter Try.func64, Try.ntmps64
  go_wp2_with fail
  refine (l08Plain_any _).mono ?_
  rintro _ v1 ⟨rfl, hv1⟩
  have hP1 := heap_newG w (.cells (intCells (flatRule plainR)) 64)
  have hS1 := src_more hS (.cells (intCells (flatRule plainR)) 64)
  have hg1 := World.grownBy_alloc w (.cells (intCells (flatRule plainR)) 64) (some B)
  rw [← hv1] at hP1 hS1 hg1
  have HA1 : Hid (OwnS B a len cap w 64 7 (.slice (some ⟨w.heap.size, 0, none⟩) 2 2) 2 (valR plainR) v1) := ⟨hS1, own_whole 2 hP1 (Nat.le_refl _) rfl (by decide), hg1, lS⟩
  have HP1 := hidS hP1
  clear hv1 hP1 hS1 hg1 hS
  go_wp2_with fail
  refine (srcN_any B a len cap 6 v1 HA1.out.src (by omega)).mono ?_
  rintro _ w2 ⟨d, rfl, d1, d2, hS2, hO2⟩
  have HA2 := hidS (HA1.out.drawn hS2 hO2.grown)
  have HP2 := hidS ((hO2.block _ (by omega)).trans HP1.out)
  clear hS2 hO2 HA1 HP1
  by_cases e0 : d = 0
  · subst e0
    clear d1 d2
    have HA3 : Hid (OwnS B a len cap w 64 7 (.slice none 0 0) 0 (valR []) w2) := ⟨HA2.out.src, World.ownsRow_nil _ _ _ _, HA2.out.gr, HA2.out.lt⟩
    clear HA2 HP2
    go_wp2_with fail
    refine (srcOne_any B a len cap 25 w2 HA3.out.src (by omega)).mono ?_
    rintro _ wT ⟨bT, rfl, hST, hOT⟩
    have HT := hidS (HA3.out.drawn hST hOT.grown)
    clear hST hOT HA3
    cases bT
    · go_wp2_with fail
      go_ret
      exact ⟨_, rfl, _, _, [], rfl, by simp, HT.out⟩
    go_wp2_with fail
    go_loopw [3] (fun l wr => SomeRs B a len cap w l wr) (fun l _ => 8 - lenV l)
    case atStart => exact ⟨_, _, [], rfl, by simp, HT.out⟩
    case round =>
      obtain ⟨aa, cc, rs, rfl, hk, hA⟩ := hrel
      have HA := hidS hA
      clear hA HT
      go_wp2_with fail
      refine (srcN_any B a len cap 2 _ HA.out.src (by omega)).mono ?_
      rintro _ w5 ⟨q, rfl, q1, q2, hS5, hO5⟩
      have HA5 := hidS (HA.out.drawn hS5 hO5.grown)
      clear hS5 hO5 HA
      have q3 : 0 ≤ q ∧ q < 2 := by omega
      clear q1 q2
      by_cases hc : (rs.length : Int) < 6 + q
      · have hk6 : rs.length < 7 := by omega
        go_wp2_with fail
        refine (l08Plain_any _).mono ?_
        rintro _ w6 ⟨rfl, hv6⟩
        have hP6 := heap_newG w5 (.cells (intCells (flatRule plainR)) 64)
        have hA6 := HA5.out.alloc (.cells (intCells (flatRule plainR)) 64)
        rw [← hv6] at hP6 hA6
        clear hv6 HA5
        generalize w5.heap.size = G at *
        have c0 := blk_cell hP6 7
        have c1 := blk_cell hP6 8
        have c2 := blk_cell hP6 9
        have c3 := blk_cell hP6 10
        have c4 := blk_cell hP6 11
        have c5 := blk_cell hP6 12
        have c6 := blk_cell hP6 13
        simp [plainR, flatRule, intCells] at c0 c1 c2 c3 c4 c5 c6
        have HA6 := hidS hA6
        clear hA6 hP6
        go_wp2_with (at_builtin; refine wpList_append_own_at _ rfl _ _ 50 rfl w.heap.size 64 i0 (.agg #[.int .i64 0, .int .i64 0, .int .i64 0, .int .i64 0, .int .i64 0, .int .i64 0, .int .i64 0]) 7 56 Try.underlying50 HI.out hz0 hz1 hz2 rfl (by decide) _ _ _ rfl (HA6.out.alloc _).own ⟨w6.heap.size, 0, none⟩ 1 1 [.int .i64 1, .int .i64 0, .int .i64 167772160, .int .i64 8, .int .i64 3405803777, .int .i64 500, .int .i64 502] rfl rfl (cell_many _ _ _) ?c2 ?c3 ?c4 ?c5 ?_)
        case c2 => intro x hx; simp at hx; rcases hx with rfl | rfl | rfl | rfl | rfl | rfl | rfl <;> rfl
        case c3 => unfold maxLen; omega
        case c4 => omega
        case c5 => have := HA6.out.gr.size; simp; omega
        intro v' w7 hown' hgrow _ hat
        have HA7 := hidS ((HA6.out.alloc _).app hown' hgrow)
        obtain ⟨a7, k7, rfl⟩ := own_shape hown'
        clear hown' hgrow hat HA6 c0 c1 c2 c3 c4 c5 c6
        go_wp2_with fail
        go_roundw
        case rel => exact ⟨a7, k7, rs ++ [⟨1, 0, 167772160, 8, 3405803777, 500, 502⟩], by simp, by simp; omega, by rw [valR_snoc]; simpa using HA7.out⟩
        case measure => simp [lenV]; omega
      · have hge : ¬ (rs.length : Int) < 6 + q := hc
        go_wp2_with fail
        go_ret
        exact ⟨_, rfl, aa, cc, rs, rfl, hk, HA5.out⟩
  have n0 : (d == 0) = false := beq_eq_false_iff_ne.2 e0
  by_cases e1 : d = 1
  · subst e1
    clear d1 d2
    go_wp2_with fail
    refine (srcN_any B a len cap 4 _ HA2.out.src (by omega)).mono ?_
    rintro _ w3 ⟨z, rfl, _, _, hS3, hO3⟩
    have HA2b := hidS (HA2.out.drawn hS3 hO3.grown)
    clear hS3 hO3 HA2 HP2
    go_wp2_with (at_builtin; refine wpList_append_own_at _ rfl _ _ 50 rfl w.heap.size 64 i0 (.agg #[.int .i64 0, .int .i64 0, .int .i64 0, .int .i64 0, .int .i64 0, .int .i64 0, .int .i64 0]) 7 56 Try.underlying50 HI.out hz0 hz1 hz2 rfl (by decide) _ _ _ rfl (HA2b.out.alloc _).own ⟨w3.heap.size, 0, none⟩ 1 1 [.int .i64 1, .int .i64 17, .int .i64 0, .int .i64 0, .int .i64 5, .int .i64 1, .int .i64 z] rfl rfl (cell_many _ _ _) ?c2 ?c3 ?c4 ?c5 ?_)
    case c2 => intro x hx; simp at hx; rcases hx with rfl | rfl | rfl | rfl | rfl | rfl | rfl <;> rfl
    case c3 => decide
    case c4 => omega
    case c5 => have := HA2b.out.gr.size; simp; omega
    intro v' w4 hown' hgrow _ hat
    have hA3 := (HA2b.out.alloc _).app hown' hgrow
    obtain ⟨a4, k4, rfl⟩ := own_shape hown'
    have HA3 : Hid (OwnS B a len cap w 64 7 (.slice a4 3 k4) 3 (valR (plainR ++ [⟨1, 17, 0, 0, 5, 1, z⟩])) w4) := by show OwnS _ _ _ _ _ _ _ _ _ _ _; rw [valR_snoc]; exact hA3
    clear hown' hgrow hat HA2b hA3
    go_wp2_with fail
    refine (srcOne_any B a len cap 25 w4 HA3.out.src (by omega)).mono ?_
    rintro _ wT ⟨bT, rfl, hST, hOT⟩
    have HT := hidS (HA3.out.drawn hST hOT.grown)
    clear hST hOT HA3
    cases bT
    · go_wp2_with fail
      go_ret
      exact ⟨_, rfl, _, _, (plainR ++ [⟨1, 17, 0, 0, 5, 1, z⟩]), rfl, by first | decide | simp [plainR], HT.out⟩
    go_wp2_with fail
    go_loopw [3] (fun l wr => SomeRs B a len cap w l wr) (fun l _ => 8 - lenV l)
    case atStart => exact ⟨_, _, (plainR ++ [⟨1, 17, 0, 0, 5, 1, z⟩]), rfl, by first | decide | simp [plainR], HT.out⟩
    case round =>
      obtain ⟨aa, cc, rs, rfl, hk, hA⟩ := hrel
      have HA := hidS hA
      clear hA HT
      go_wp2_with fail
      refine (srcN_any B a len cap 2 _ HA.out.src (by omega)).mono ?_
      rintro _ w5 ⟨q, rfl, q1, q2, hS5, hO5⟩
      have HA5 := hidS (HA.out.drawn hS5 hO5.grown)
      clear hS5 hO5 HA
      have q3 : 0 ≤ q ∧ q < 2 := by omega
      clear q1 q2
      by_cases hc : (rs.length : Int) < 6 + q
      · have hk6 : rs.length < 7 := by omega
        go_wp2_with fail
        refine (l08Plain_any _).mono ?_
        rintro _ w6 ⟨rfl, hv6⟩
        have hP6 := heap_newG w5 (.cells (intCells (flatRule plainR)) 64)
        have hA6 := HA5.out.alloc (.cells (intCells (flatRule plainR)) 64)
        rw [← hv6] at hP6 hA6
        clear hv6 HA5
        generalize w5.heap.size = G at *
        have c0 := blk_cell hP6 7
        have c1 := blk_cell hP6 8
        have c2 := blk_cell hP6 9
        have c3 := blk_cell hP6 10
        have c4 := blk_cell hP6 11
        have c5 := blk_cell hP6 12
        have c6 := blk_cell hP6 13
        simp [plainR, flatRule, intCells] at c0 c1 c2 c3 c4 c5 c6
        have HA6 := hidS hA6
        clear hA6 hP6
        go_wp2_with (at_builtin; refine wpList_append_own_at _ rfl _ _ 50 rfl w.heap.size 64 i0 (.agg #[.int .i64 0, .int .i64 0, .int .i64 0, .int .i64 0, .int .i64 0, .int .i64 0, .int .i64 0]) 7 56 Try.underlying50 HI.out hz0 hz1 hz2 rfl (by decide) _ _ _ rfl (HA6.out.alloc _).own ⟨w6.heap.size, 0, none⟩ 1 1 [.int .i64 1, .int .i64 0, .int .i64 167772160, .int .i64 8, .int .i64 3405803777, .int .i64 500, .int .i64 502] rfl rfl (cell_many _ _ _) ?c2 ?c3 ?c4 ?c5 ?_)
        case c2 => intro x hx; simp at hx; rcases hx with rfl | rfl | rfl | rfl | rfl | rfl | rfl <;> rfl
        case c3 => unfold maxLen; omega
        case c4 => omega
        case c5 => have := HA6.out.gr.size; simp; omega
        intro v' w7 hown' hgrow _ hat
        have HA7 := hidS ((HA6.out.alloc _).app hown' hgrow)
        obtain ⟨a7, k7, rfl⟩ := own_shape hown'
        clear hown' hgrow hat HA6 c0 c1 c2 c3 c4 c5 c6
        go_wp2_with fail
        go_roundw
        case rel => exact ⟨a7, k7, rs ++ [⟨1, 0, 167772160, 8, 3405803777, 500, 502⟩], by simp, by simp; omega, by rw [valR_snoc]; simpa using HA7.out⟩
        case measure => simp [lenV]; omega
      · have hge : ¬ (rs.length : Int) < 6 + q := hc
        go_wp2_with fail
        go_ret
        exact ⟨_, rfl, aa, cc, rs, rfl, hk, HA5.out⟩
  have n1 : (d == 1) = false := beq_eq_false_iff_ne.2 e1
  by_cases e2 : d = 2
  · subst e2
    clear d1 d2
    go_wp2_with fail
    refine (srcN_any B a len cap 34 _ HA2.out.src (by omega)).mono ?_
    rintro _ w3 ⟨z, rfl, z1, z2, hS3, hO3⟩
    have HA2b := hidS (HA2.out.drawn hS3 hO3.grown)
    have hP3 := (hO3.block _ (by omega)).trans HP2.out
    clear hS3 hO3 HA2 HP2
    have z3 : 0 ≤ z ∧ z < 34 := by omega
    clear z1 z2
    have cX := blk_cell hP3 3
    have fX := blk_free hP3 3
    simp [plainR, flatRule, intCells] at cX
    have hP4 := blk_set hP3 3 (.int .i64 (z))
    rw [intCells_set] at hP4
    have HA3 : Hid (OwnS B a len cap w 64 7 (.slice (some ⟨w.heap.size, 0, none⟩) 2 2) 2 (valR [⟨2, 6, 3405803777, z, 167772169, 8080, 8080⟩, ⟨1, 0, 167772160, 8, 3405803777, 500, 502⟩]) (w3.setCell ⟨w.heap.size, 3, none⟩ (.int .i64 (z)))) := HA2b.out.app (own_whole 2 hP4 (Nat.le_refl _) rfl (by decide)) ((Only.refl w.heap.size w3).setCell 3 (.int .i64 (z))).grown
    clear hP3 hP4 HA2b
    go_wp2_with fail
    clear cX fX
    refine (srcOne_any B a len cap 25 _ HA3.out.src (by omega)).mono ?_
    rintro _ wT ⟨bT, rfl, hST, hOT⟩
    have HT := hidS (HA3.out.drawn hST hOT.grown)
    clear hST hOT HA3
    cases bT
    · go_wp2_with fail
      go_ret
      exact ⟨_, rfl, _, _, [⟨2, 6, 3405803777, z, 167772169, 8080, 8080⟩, ⟨1, 0, 167772160, 8, 3405803777, 500, 502⟩], rfl, by first | decide | simp [plainR], HT.out⟩
    go_wp2_with fail
    go_loopw [3] (fun l wr => SomeRs B a len cap w l wr) (fun l _ => 8 - lenV l)
    case atStart => exact ⟨_, _, [⟨2, 6, 3405803777, z, 167772169, 8080, 8080⟩, ⟨1, 0, 167772160, 8, 3405803777, 500, 502⟩], rfl, by first | decide | simp [plainR], HT.out⟩
    case round =>
      obtain ⟨aa, cc, rs, rfl, hk, hA⟩ := hrel
      have HA := hidS hA
      clear hA HT
      go_wp2_with fail
      refine (srcN_any B a len cap 2 _ HA.out.src (by omega)).mono ?_
      rintro _ w5 ⟨q, rfl, q1, q2, hS5, hO5⟩
      have HA5 := hidS (HA.out.drawn hS5 hO5.grown)
      clear hS5 hO5 HA
      have q3 : 0 ≤ q ∧ q < 2 := by omega
      clear q1 q2
      by_cases hc : (rs.length : Int) < 6 + q
      · have hk6 : rs.length < 7 := by omega
        go_wp2_with fail
        refine (l08Plain_any _).mono ?_
        rintro _ w6 ⟨rfl, hv6⟩
        have hP6 := heap_newG w5 (.cells (intCells (flatRule plainR)) 64)
        have hA6 := HA5.out.alloc (.cells (intCells (flatRule plainR)) 64)
        rw [← hv6] at hP6 hA6
        clear hv6 HA5
        generalize w5.heap.size = G at *
        have c0 := blk_cell hP6 7
        have c1 := blk_cell hP6 8
        have c2 := blk_cell hP6 9
        have c3 := blk_cell hP6 10
        have c4 := blk_cell hP6 11
        have c5 := blk_cell hP6 12
        have c6 := blk_cell hP6 13
        simp [plainR, flatRule, intCells] at c0 c1 c2 c3 c4 c5 c6
        have HA6 := hidS hA6
        clear hA6 hP6
        go_wp2_with (at_builtin; refine wpList_append_own_at _ rfl _ _ 50 rfl w.heap.size 64 i0 (.agg #[.int .i64 0, .int .i64 0, .int .i64 0, .int .i64 0, .int .i64 0, .int .i64 0, .int .i64 0]) 7 56 Try.underlying50 HI.out hz0 hz1 hz2 rfl (by decide) _ _ _ rfl (HA6.out.alloc _).own ⟨w6.heap.size, 0, none⟩ 1 1 [.int .i64 1, .int .i64 0, .int .i64 167772160, .int .i64 8, .int .i64 3405803777, .int .i64 500, .int .i64 502] rfl rfl (cell_many _ _ _) ?c2 ?c3 ?c4 ?c5 ?_)
        case c2 => intro x hx; simp at hx; rcases hx with rfl | rfl | rfl | rfl | rfl | rfl | rfl <;> rfl
        case c3 => unfold maxLen; omega
        case c4 => omega
        case c5 => have := HA6.out.gr.size; simp; omega
        intro v' w7 hown' hgrow _ hat
        have HA7 := hidS ((HA6.out.alloc _).app hown' hgrow)
        obtain ⟨a7, k7, rfl⟩ := own_shape hown'
        clear hown' hgrow hat HA6 c0 c1 c2 c3 c4 c5 c6
        go_wp2_with fail
        go_roundw
        case rel => exact ⟨a7, k7, rs ++ [⟨1, 0, 167772160, 8, 3405803777, 500, 502⟩], by simp, by simp; omega, by rw [valR_snoc]; simpa using HA7.out⟩
        case measure => simp [lenV]; omega
      · have hge : ¬ (rs.length : Int) < 6 + q := hc
        go_wp2_with fail
        go_ret
        exact ⟨_, rfl, aa, cc, rs, rfl, hk, HA5.out⟩
  have n2 : (d == 2) = false := beq_eq_false_iff_ne.2 e2
  by_cases e3 : d = 3
  · subst e3
    clear d1 d2
    go_wp2_with fail
    refine (srcN_any B a len cap 9 _ HA2.out.src (by omega)).mono ?_
    rintro _ w3 ⟨z, rfl, z1, z2, hS3, hO3⟩
    have HA2b := hidS (HA2.out.drawn hS3 hO3.grown)
    have hP3 := (hO3.block _ (by omega)).trans HP2.out
    clear hS3 hO3 HA2 HP2
    have z3 : 0 ≤ z ∧ z < 9 := by omega
    clear z1 z2
    have cX := blk_cell hP3 13
    have fX := blk_free hP3 13
    simp [plainR, flatRule, intCells] at cX
    have hP4 := blk_set hP3 13 (.int .i64 (500 + z))
    rw [intCells_set] at hP4
    have HA3 : Hid (OwnS B a len cap w 64 7 (.slice (some ⟨w.heap.size, 0, none⟩) 2 2) 2 (valR [⟨2, 6, 3405803777, 32, 167772169, 8080, 8080⟩, ⟨1, 0, 167772160, 8, 3405803777, 500, 500 + z⟩]) (w3.setCell ⟨w.heap.size, 13, none⟩ (.int .i64 (500 + z)))) := HA2b.out.app (own_whole 2 hP4 (Nat.le_refl _) rfl (by decide)) ((Only.refl w.heap.size w3).setCell 13 (.int .i64 (500 + z))).grown
    clear hP3 hP4 HA2b
    go_wp2_with fail
    clear cX fX
    refine (srcOne_any B a len cap 25 _ HA3.out.src (by omega)).mono ?_
    rintro _ wT ⟨bT, rfl, hST, hOT⟩
    have HT := hidS (HA3.out.drawn hST hOT.grown)
    clear hST hOT HA3
    cases bT
    · go_wp2_with fail
      go_ret
      exact ⟨_, rfl, _, _, [⟨2, 6, 3405803777, 32, 167772169, 8080, 8080⟩, ⟨1, 0, 167772160, 8, 3405803777, 500, 500 + z⟩], rfl, by first | decide | simp [plainR], HT.out⟩
    go_wp2_with fail
    go_loopw [3] (fun l wr => SomeRs B a len cap w l wr) (fun l _ => 8 - lenV l)
    case atStart => exact ⟨_, _, [⟨2, 6, 3405803777, 32, 167772169, 8080, 8080⟩, ⟨1, 0, 167772160, 8, 3405803777, 500, 500 + z⟩], rfl, by first | decide | simp [plainR], HT.out⟩
    case round =>
      obtain ⟨aa, cc, rs, rfl, hk, hA⟩ := hrel
      have HA := hidS hA
      clear hA HT
      go_wp2_with fail
      refine (srcN_any B a len cap 2 _ HA.out.src (by omega)).mono ?_
      rintro _ w5 ⟨q, rfl, q1, q2, hS5, hO5⟩
      have HA5 := hidS (HA.out.drawn hS5 hO5.grown)
      clear hS5 hO5 HA
      have q3 : 0 ≤ q ∧ q < 2 := by omega
      clear q1 q2
      by_cases hc : (rs.length : Int) < 6 + q
      · have hk6 : rs.length < 7 := by omega
        go_wp2_with fail
        refine (l08Plain_any _).mono ?_
        rintro _ w6 ⟨rfl, hv6⟩
        have hP6 := heap_newG w5 (.cells (intCells (flatRule plainR)) 64)
        have hA6 := HA5.out.alloc (.cells (intCells (flatRule plainR)) 64)
        rw [← hv6] at hP6 hA6
        clear hv6 HA5
        generalize w5.heap.size = G at *
        have c0 := blk_cell hP6 7
        have c1 := blk_cell hP6 8
        have c2 := blk_cell hP6 9
        have c3 := blk_cell hP6 10
        have c4 := blk_cell hP6 11
        have c5 := blk_cell hP6 12
        have c6 := blk_cell hP6 13
        simp [plainR, flatRule, intCells] at c0 c1 c2 c3 c4 c5 c6
        have HA6 := hidS hA6
        clear hA6 hP6
        go_wp2_with (at_builtin; refine wpList_append_own_at _ rfl _ _ 50 rfl w.heap.size 64 i0 (.agg #[.int .i64 0, .int .i64 0, .int .i64 0, .int .i64 0, .int .i64 0, .int .i64 0, .int .i64 0]) 7 56 Try.underlying50 HI.out hz0 hz1 hz2 rfl (by decide) _ _ _ rfl (HA6.out.alloc _).own ⟨w6.heap.size, 0, none⟩ 1 1 [.int .i64 1, .int .i64 0, .int .i64 167772160, .int .i64 8, .int .i64 3405803777, .int .i64 500, .int .i64 502] rfl rfl (cell_many _ _ _) ?c2 ?c3 ?c4 ?c5 ?_)
        case c2 => intro x hx; simp at hx; rcases hx with rfl | rfl | rfl | rfl | rfl | rfl | rfl <;> rfl
        case c3 => unfold maxLen; omega
        case c4 => omega
        case c5 => have := HA6.out.gr.size; simp; omega
        intro v' w7 hown' hgrow _ hat
        have HA7 := hidS ((HA6.out.alloc _).app hown' hgrow)
        obtain ⟨a7, k7, rfl⟩ := own_shape hown'
        clear hown' hgrow hat HA6 c0 c1 c2 c3 c4 c5 c6
        go_wp2_with fail
        go_roundw
        case rel => exact ⟨a7, k7, rs ++ [⟨1, 0, 167772160, 8, 3405803777, 500, 502⟩], by simp, by simp; omega, by rw [valR_snoc]; simpa using HA7.out⟩
        case measure => simp [lenV]; omega
      · have hge : ¬ (rs.length : Int) < 6 + q := hc
        go_wp2_with fail
        go_ret
        exact ⟨_, rfl, aa, cc, rs, rfl, hk, HA5.out⟩
  have n3 : (d == 3) = false := beq_eq_false_iff_ne.2 e3
  clear HP2
  go_wp2_with fail
  refine (srcOne_any B a len cap 25 w2 HA2.out.src (by omega)).mono ?_
  rintro _ wT ⟨bT, rfl, hST, hOT⟩
  have HT := hidS (HA2.out.drawn hST hOT.grown)
  clear hST hOT HA2
  cases bT
  · go_wp2_with fail
    go_ret
    exact ⟨_, rfl, _, _, plainR, rfl, by first | decide | simp [plainR], HT.out⟩
  go_wp2_with fail
  go_loopw [3] (fun l wr => SomeRs B a len cap w l wr) (fun l _ => 8 - lenV l)
  case atStart => exact ⟨_, _, plainR, rfl, by first | decide | simp [plainR], HT.out⟩
  case round =>
    obtain ⟨aa, cc, rs, rfl, hk, hA⟩ := hrel
    have HA := hidS hA
    clear hA HT
    go_wp2_with fail
    refine (srcN_any B a len cap 2 _ HA.out.src (by omega)).mono ?_
    rintro _ w5 ⟨q, rfl, q1, q2, hS5, hO5⟩
    have HA5 := hidS (HA.out.drawn hS5 hO5.grown)
    clear hS5 hO5 HA
    have q3 : 0 ≤ q ∧ q < 2 := by omega
    clear q1 q2
    by_cases hc : (rs.length : Int) < 6 + q
    · have hk6 : rs.length < 7 := by omega
      go_wp2_with fail
      refine (l08Plain_any _).mono ?_
      rintro _ w6 ⟨rfl, hv6⟩
      have hP6 := heap_newG w5 (.cells (intCells (flatRule plainR)) 64)
      have hA6 := HA5.out.alloc (.cells (intCells (flatRule plainR)) 64)
      rw [← hv6] at hP6 hA6
      clear hv6 HA5
      generalize w5.heap.size = G at *
      have c0 := blk_cell hP6 7
      have c1 := blk_cell hP6 8
      have c2 := blk_cell hP6 9
      have c3 := blk_cell hP6 10
      have c4 := blk_cell hP6 11
      have c5 := blk_cell hP6 12
      have c6 := blk_cell hP6 13
      simp [plainR, flatRule, intCells] at c0 c1 c2 c3 c4 c5 c6
      have HA6 := hidS hA6
      clear hA6 hP6
      go_wp2_with (at_builtin; refine wpList_append_own_at _ rfl _ _ 50 rfl w.heap.size 64 i0 (.agg #[.int .i64 0, .int .i64 0, .int .i64 0, .int .i64 0, .int .i64 0, .int .i64 0, .int .i64 0]) 7 56 Try.underlying50 HI.out hz0 hz1 hz2 rfl (by decide) _ _ _ rfl (HA6.out.alloc _).own ⟨w6.heap.size, 0, none⟩ 1 1 [.int .i64 1, .int .i64 0, .int .i64 167772160, .int .i64 8, .int .i64 3405803777, .int .i64 500, .int .i64 502] rfl rfl (cell_many _ _ _) ?c2 ?c3 ?c4 ?c5 ?_)
      case c2 => intro x hx; simp at hx; rcases hx with rfl | rfl | rfl | rfl | rfl | rfl | rfl <;> rfl
      case c3 => unfold maxLen; omega
      case c4 => omega
      case c5 => have := HA6.out.gr.size; simp; omega
      intro v' w7 hown' hgrow _ hat
      have HA7 := hidS ((HA6.out.alloc _).app hown' hgrow)
      obtain ⟨a7, k7, rfl⟩ := own_shape hown'
      clear hown' hgrow hat HA6 c0 c1 c2 c3 c4 c5 c6
      go_wp2_with fail
      go_roundw
      case rel => exact ⟨a7, k7, rs ++ [⟨1, 0, 167772160, 8, 3405803777, 500, 502⟩], by simp, by simp; omega, by rw [valR_snoc]; simpa using HA7.out⟩
      case measure => simp [lenV]; omega
    · have hge : ¬ (rs.length : Int) < 6 + q := hc
      go_wp2_with fail
      go_ret
      exact ⟨_, rfl, aa, cc, rs, rfl, hk, HA5.out⟩
end Go.Proofs.Ytilajoafppplcaa
