/- Proved here: spec.l08Used draws at most six tuples, in memory of its own; all old blocks but the source's stay (condition: the source lies in its block). -/
import Derived.Test.YtilajoafppplcaaAll6
import Derived.Test.YtilajoafppplcaaAll14
namespace Go.Proofs.Ytilajoafppplcaa
open Go.ChangeShapes Go.WideShapes Go.ChangeAt Go.RowKit
set_option linter.unusedVariables false
set_option linter.unusedSimpArgs false
set_option maxRecDepth 100000

def valT (us : List Tp) : List Value := (flatTuple us).map (.int .i64)
theorem flatTuple_snoc (r : Tp) : ∀ us : List Tp, flatTuple (us ++ [r]) = flatTuple us ++ [r.proto, r.src, r.sport, r.dst, r.dport, r.kind]
  | [] => rfl
  | s :: ss => by simp [flatTuple, flatTuple_snoc r ss]
theorem valT_snoc (r : Tp) (us : List Tp) : valT (us ++ [r]) = valT us ++ [.int .i64 r.proto, .int .i64 r.src, .int .i64 r.sport, .int .i64 r.dst, .int .i64 r.dport, .int .i64 r.kind] := by simp [valT, flatTuple_snoc]
/-- tuples in the making -/
def SomeTs (B : Nat) (a : Option Addr) (len cap : Nat) (w0 : World) (m : Nat) (v : Value) (W : World) : Prop := ∃ aa cc us, v = .slice aa (us : List Tp).length cc ∧ us.length + m ≤ 6 ∧ OwnS B a len cap w0 52 6 (.slice aa us.length cc) us.length (valT us) W
set_option maxHeartbeats 4000000 in
theorem srcUsed_any (B : Nat) (a : Option Addr) (len cap : Nat) (w : World) (hS : Src B a len cap w) :
    Calls Try.prog 66 #[.pointer (some ⟨B, 0, none⟩)] w fun e w' => ∃ v, e = .returned v ∧ SomeTs B a len cap w 0 v w' := by
  have lS := hS.lt
  obtain ⟨i0, hi, hz⟩ := Option.map_eq_some_iff.1 (show (Try.prog.info? 52).map (fun i => (i.zero, i.size, i.bytes)) = some (some (.agg #[.int .i64 0, .int .i64 0, .int .i64 0, .int .i64 0, .int .i64 0, .int .i64 0]), 6, 48) by kernel_rfl)
  simp only [Prod.mk.injEq] at hz
  obtain ⟨hz0, hz1, hz2⟩ := hz
  have HI := hidS hi
  clear hi
  have HA1 : Hid (OwnS B a len cap w 52 6 (.slice (some ⟨w.heap.size, 0, none⟩) 0 0) 0 (valT []) (w.alloc (.cells #[] 52))) := ⟨hS.kept fun k hk => Below.heap_alloc _ _ _ (by omega), ⟨rfl, Or.inr ⟨w.heap.size, 0, #[], rfl, Nat.le_refl _, heap_new _ _, Nat.le_refl _, by simp [maxLen], rfl, rfl⟩⟩, World.grownBy_alloc _ _ _, lS⟩
  clear hS
  go_enter Try.func66, Try.ntmps66
  go_wp2_with fail
  refine (srcN_any B a len cap 6 _ HA1.out.src (by omega)).mono ?_
  rintro _ w2 ⟨d, rfl, d1, d2, hS2, hO2⟩
  have HA2 := hidS (HA1.out.drawn hS2 hO2.grown)
  clear hS2 hO2 HA1
  obtain ⟨m, rfl⟩ : ∃ m : Nat, d = m := ⟨d.toNat, by omega⟩
  have hm : m ≤ 6 := by omega
  clear d1 d2
  go_wp2_with fail
  go_loopw [3, 4] (fun l k wr => ∃ j : Nat, k = .int .i64 (j : Int) ∧ SomeTs B a len cap w j l wr) (fun _ k _ => (intOf k).toNat)
  case atStart => exact ⟨m, rfl, _, _, [], rfl, by simpa using hm, HA2.out⟩
  case round =>
    obtain ⟨j, rfl, aa, cc, us, rfl, hk, hA⟩ := hrel
    have HA := hidS hA
    clear hA HA2 hm
    by_cases hj : 0 < j
    · have hj' : (0 : Int) < (j : Int) := by omega
      have hk6 : us.length < 6 := by omega
      have hj6 : (j : Int) ≤ 6 := by omega
      go_wp2_with fail
      refine (srcTuple_any B a len cap _ HA.out.src).mono ?_
      rintro _ w3 ⟨t, rfl, hS3, hg3⟩
      have hA3 := (HA.out.drawn hS3 hg3)
      have hne : Hid ((Value.slice aa us.length cc).ownBlock ≠ some w3.heap.size) := fun e => by have := (hA3.own.lt _ e).2; omega
      have hT : w.heap.size ≤ w3.heap.size := hA3.gr.size
      have HA4 := hidS (hA3.alloc (.cells #[.int .i64 t.proto, .int .i64 t.src, .int .i64 t.sport, .int .i64 t.dst, .int .i64 t.dport, .int .i64 t.kind] 52))
      have HT4 := hidS (heap_newG w3 (.cells #[.int .i64 t.proto, .int .i64 t.src, .int .i64 t.sport, .int .i64 t.dst, .int .i64 t.dport, .int .i64 t.kind] 52))
      clear hS3 hg3 hA3 HA
      go_upto_region 6 with fail
      generalize w3.alloc (.cells #[.int .i64 t.proto, .int .i64 t.src, .int .i64 t.sport, .int .i64 t.dst, .int .i64 t.dport, .int .i64 t.kind] 52) = w4 at *
      generalize w3.heap.size = X at *
      have lB := HA4.out.lt
      go_wp2_with fail
      refine (srcOne_any B a len cap 2 _ HA4.out.src (by omega)).mono ?_
      rintro _ w5 ⟨b, rfl, hS5, hO5⟩
      have HA5 := hidS (HA4.out.drawn hS5 hO5.grown)
      have HT5 := hidS ((hO5.block _ (by omega)).trans HT4.out)
      clear hS5 hO5 HA4 HT4
      cases b
      · go_upto_region 11 with fail
        have c0 := blk_cell HT5.out 0
        have c1 := blk_cell HT5.out 1
        have c2 := blk_cell HT5.out 2
        have c3 := blk_cell HT5.out 3
        have c4 := blk_cell HT5.out 4
        have c5 := blk_cell HT5.out 5
        simp at c0 c1 c2 c3 c4 c5
        go_wp2_with (at_builtin; refine wpList_append_own_at _ rfl _ _ 53 rfl w.heap.size 52 i0 (.agg #[.int .i64 0, .int .i64 0, .int .i64 0, .int .i64 0, .int .i64 0, .int .i64 0]) 6 48 Try.underlying53 HI.out hz0 hz1 hz2 rfl (by decide) _ _ _ rfl (HA5.out.alloc _).own ⟨w5.heap.size, 0, none⟩ 1 1 [.int .i64 t.proto, .int .i64 t.src, .int .i64 t.sport, .int .i64 t.dst, .int .i64 t.dport, .int .i64 t.kind] rfl rfl (cell_many _ _ _) ?c2 ?c3 ?c4 ?c5 ?_)
        case c2 => intro x hx; simp at hx; rcases hx with rfl | rfl | rfl | rfl | rfl | rfl <;> rfl
        case c3 => unfold maxLen; omega
        case c4 => omega
        case c5 => have := HA5.out.gr.size; simp; omega
        intro v' wZ hown' hgrow _ hat
        have HZ := hidS ((HA5.out.alloc _).app hown' hgrow)
        obtain ⟨aZ, kZ, rfl⟩ := own_shape hown'
        clear hown' hgrow hat HA5 HT5 c0 c1 c2 c3 c4 c5
        go_wp2_with fail
        go_roundw
        case rel => exact ⟨j - 1, by simp; omega, aZ, kZ, us ++ [t], by simp, by simp; omega, by rw [valT_snoc]; simpa using HZ.out⟩
        case measure => simp [intOf]; omega
      have c1 := blk_cell HT5.out 1
      have f1 := blk_free HT5.out 1
      simp at c1
      have HT6 := hidS (blk_set HT5.out 1 (.int .i64 3405803777))
      have HA6 := hidS (HA5.out.set X 1 (.int .i64 3405803777) hT hne.out)
      clear HA5 HT5
      go_upto_region 8 with fail
      clear c1 f1
      generalize w5.setCell ⟨X, 1, none⟩ (.int .i64 3405803777) = w6 at *
      go_wp2_with fail
      refine (srcN_any B a len cap 3 _ HA6.out.src (by omega)).mono ?_
      rintro _ w7 ⟨z, rfl, z1, z2, hS7, hO7⟩
      have HA7 := hidS (HA6.out.drawn hS7 hO7.grown)
      have hT7 : w7.heap[X]? = some (.cells #[.int .i64 t.proto, .int .i64 3405803777, .int .i64 t.sport, .int .i64 t.dst, .int .i64 t.dport, .int .i64 t.kind] 52) := (hO7.block _ (by omega)).trans HT6.out
      have z3 : 0 ≤ z ∧ z < 3 := by omega
      clear hS7 hO7 HA6 HT6 z1 z2
      have c2 := blk_cell hT7 2
      have f2 := blk_free hT7 2
      simp at c2
      have HT8 : Hid ((w7.setCell ⟨X, 2, none⟩ (.int .i64 (500 + z))).heap[X]? = some (.cells #[.int .i64 t.proto, .int .i64 3405803777, .int .i64 (500 + z), .int .i64 t.dst, .int .i64 t.dport, .int .i64 t.kind] 52)) := blk_set hT7 2 (.int .i64 (500 + z))
      have HA8 := hidS (HA7.out.set X 2 (.int .i64 (500 + z)) hT hne.out)
      clear HA7 hT7
      go_upto_region 9 with fail
      clear c2 f2
      generalize w7.setCell ⟨X, 2, none⟩ (.int .i64 (500 + z)) = w8 at *
      generalize 500 + z = y at *
      have c0 := blk_cell HT8.out 0
      simp at c0
      by_cases hp : t.proto = 1
      · rw [hp] at c0
        clear hp
        have c2 := blk_cell HT8.out 2
        have c4 := blk_cell HT8.out 4
        have f4 := blk_free HT8.out 4
        simp at c2 c4
        have HT9 : Hid ((w8.setCell ⟨X, 4, none⟩ (.int .i64 y)).heap[X]? = some (.cells #[.int .i64 t.proto, .int .i64 3405803777, .int .i64 y, .int .i64 t.dst, .int .i64 y, .int .i64 t.kind] 52)) := blk_set HT8.out 4 (.int .i64 y)
        have HA9 := hidS (HA8.out.set X 4 (.int .i64 y) hT hne.out)
        clear HA8 HT8
        go_upto_region 11 with fail
        clear c0 c2 c4 f4
        generalize w8.setCell ⟨X, 4, none⟩ (.int .i64 y) = w9 at *
        have c0 := blk_cell HT9.out 0
        have c1 := blk_cell HT9.out 1
        have c2 := blk_cell HT9.out 2
        have c3 := blk_cell HT9.out 3
        have c4 := blk_cell HT9.out 4
        have c5 := blk_cell HT9.out 5
        simp at c0 c1 c2 c3 c4 c5
        go_wp2_with (at_builtin; refine wpList_append_own_at _ rfl _ _ 53 rfl w.heap.size 52 i0 (.agg #[.int .i64 0, .int .i64 0, .int .i64 0, .int .i64 0, .int .i64 0, .int .i64 0]) 6 48 Try.underlying53 HI.out hz0 hz1 hz2 rfl (by decide) _ _ _ rfl (HA9.out.alloc _).own ⟨w9.heap.size, 0, none⟩ 1 1 [.int .i64 t.proto, .int .i64 3405803777, .int .i64 y, .int .i64 t.dst, .int .i64 y, .int .i64 t.kind] rfl rfl (cell_many _ _ _) ?c2 ?c3 ?c4 ?c5 ?_)
        case c2 => intro x hx; simp at hx; rcases hx with rfl | rfl | rfl | rfl | rfl | rfl <;> rfl
        case c3 => unfold maxLen; omega
        case c4 => omega
        case c5 => have := HA9.out.gr.size; simp; omega
        intro v' wZ hown' hgrow _ hat
        have HZ := hidS ((HA9.out.alloc _).app hown' hgrow)
        obtain ⟨aZ, kZ, rfl⟩ := own_shape hown'
        clear hown' hgrow hat HA9 HT9 c0 c1 c2 c3 c4 c5
        go_wp2_with fail
        go_roundw
        case rel => exact ⟨j - 1, by simp; omega, aZ, kZ, us ++ [(⟨t.proto, 3405803777, y, t.dst, y, t.kind⟩ : Tp)], by simp, by simp; omega, by rw [valT_snoc]; simpa using HZ.out⟩
        case measure => simp [intOf]; omega
      · have hp2 : (t.proto == 1) = false := beq_eq_false_iff_ne.2 hp
        go_upto_region 11 with fail
        clear c0
        have c0 := blk_cell HT8.out 0
        have c1 := blk_cell HT8.out 1
        have c2 := blk_cell HT8.out 2
        have c3 := blk_cell HT8.out 3
        have c4 := blk_cell HT8.out 4
        have c5 := blk_cell HT8.out 5
        simp at c0 c1 c2 c3 c4 c5
        go_wp2_with (at_builtin; refine wpList_append_own_at _ rfl _ _ 53 rfl w.heap.size 52 i0 (.agg #[.int .i64 0, .int .i64 0, .int .i64 0, .int .i64 0, .int .i64 0, .int .i64 0]) 6 48 Try.underlying53 HI.out hz0 hz1 hz2 rfl (by decide) _ _ _ rfl (HA8.out.alloc _).own ⟨w8.heap.size, 0, none⟩ 1 1 [.int .i64 t.proto, .int .i64 3405803777, .int .i64 y, .int .i64 t.dst, .int .i64 t.dport, .int .i64 t.kind] rfl rfl (cell_many _ _ _) ?c2 ?c3 ?c4 ?c5 ?_)
        case c2 => intro x hx; simp at hx; rcases hx with rfl | rfl | rfl | rfl | rfl | rfl <;> rfl
        case c3 => unfold maxLen; omega
        case c4 => omega
        case c5 => have := HA8.out.gr.size; simp; omega
        intro v' wZ hown' hgrow _ hat
        have HZ := hidS ((HA8.out.alloc _).app hown' hgrow)
        obtain ⟨aZ, kZ, rfl⟩ := own_shape hown'
        clear hown' hgrow hat HA8 HT8 c0 c1 c2 c3 c4 c5
        go_wp2_with fail
        go_roundw
        case rel => exact ⟨j - 1, by simp; omega, aZ, kZ, us ++ [(⟨t.proto, 3405803777, y, t.dst, t.dport, t.kind⟩ : Tp)], by simp, by simp; omega, by rw [valT_snoc]; simpa using HZ.out⟩
        case measure => simp [intOf]; omega
    · obtain rfl : j = 0 := by omega
      go_wp2_with fail
      go_ret
      exact ⟨_, rfl, aa, cc, us, rfl, hk, HA.out⟩
end Go.Proofs.Ytilajoafppplcaa
