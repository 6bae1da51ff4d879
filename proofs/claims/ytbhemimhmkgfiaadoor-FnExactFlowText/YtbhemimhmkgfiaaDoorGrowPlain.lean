/- Proved here: laws on a region that keeps its order and ends in a store of a whole struct (no program of its own). -/
import Derived.Test.YtbhemimhmkgfiaaDoorGrow
import Derived.Test.YtbhemimhmkgfiaaDoorBlk
import Derived.BigFrame
namespace Go.Proofs.YtbhemimhmkgfiaaDoor
open Go.ChangeShapes Go.WideShapes Go.ChangeAt Go.RowKit
set_option linter.unusedVariables false
variable {P : Program} {ops : Array Oper} {Q : Exit → Act → World → Prop} {C : World → Prop} {R : World → World → Prop} {A : Nat → Value → World → Prop} {a0 : Act}

theorem upto_congr {v v' : Nat → Value} : ∀ i, (∀ j, j < i → v j = v' j) → upto ops v a0 i = upto ops v' a0 i
  | 0, _ => rfl
  | i + 1, h => by
    show (upto ops v a0 i).put _ (v i) = (upto ops v' a0 i).put _ (v' i)
    rw [upto_congr i (fun j hj => h j (by omega)), h i (by omega)]
theorem plain_ops (m : Nat) (hm : m ≤ ops.size) (rest : List Nat) (T : Tidy ops a0.tmps.size) (hA : ∀ i v w w', A i v w → R w w' → A i v w')
    (hstep : ∀ (i : Nat) (o : Oper), i < m → ops[i]? = some o → StepOf P ops Q C R A a0 i o)
    (hend : ∀ (v : Nat → Value) (w : World), C w → (∀ i, i < m → A i (v i) w) → wpOps P ops (NoPanic Q) rest (upto ops v a0 m) w) :
    ∀ k, k ≤ m → ∀ (v : Nat → Value) (w : World), C w → (∀ i, i < m - k → A i (v i) w) → wpOps P ops (NoPanic Q) (List.range' (m - k) k ++ rest) (upto ops v a0 (m - k)) w := by
  intro k
  induction k with
  | zero => intro hk v w hC hall; simpa using hend v w hC hall
  | succ k ih =>
    intro hk v w hC hall
    have hi : m - (k + 1) < m := by omega
    have hs : m - k = m - (k + 1) + 1 := by omega
    have ih' := ih (by omega)
    rw [hs] at ih'
    generalize m - (k + 1) = i at *
    obtain ⟨o, ho⟩ : ∃ o, ops[i]? = some o := ⟨ops[i]'(by omega), Array.getElem?_eq_getElem _⟩
    rw [List.range'_succ, List.cons_append]
    unfold wpOps
    simp only [ho]
    have hK : ∀ u w', C w' → R w w' → A i u w' → wpOps P ops (NoPanic Q) (List.range' (i + 1) k ++ rest) ((upto ops v a0 i).put o.dst u) w' := fun u w' hC' hR hAi => by
      have h2 := ih' (fun j => if j = i then u else v j) w' hC' (fun j hj => by
        by_cases e : j = i
        · subst e; simpa using hAi
        · simp only [if_neg e]; exact hA j _ _ _ (hall j (by omega)) hR)
      have e2 : upto ops (fun j => if j = i then u else v j) a0 (i + 1) = (upto ops v a0 i).put o.dst u := by
        show (upto ops (fun j => if j = i then u else v j) a0 i).put _ _ = _
        rw [upto_congr (v' := v) i (fun j hj => if_neg (by omega)), ho]
        simp
      rw [e2] at h2
      exact h2
    have hS := hstep i o hi ho v w hC (fun e he hb => hall _ (T.back i o ho e he hb)) _ hK
    by_cases hw : Region.wanted o (yielded ops (upto ops v a0 i).tmps) = true
    · rw [if_pos hw] at hS ⊢
      exact .inl hS
    · rw [if_neg hw] at hS ⊢
      exact hK undef w hC hS.1 hS.2
theorem plain_store {id : Nat} {w0 : World} (m : Nat) (last : Oper) (ks : List Kd) (hsz : ops.size = m + 1) (hl : ops[m]? = some last) (hlg : last.guard = none) (hlB : lastB ops m = true) (hm : P.follows .mixedOrders = true) (hT : tidyB ops a0.tmps.size = true)
    (hstep : StepsFrom (StepU P ops (fun W => Below w0.heap.size w0 W) (fun w w' => Below w.heap.size w w') (kdOf ks) a0) 0 (ops.toList.take m))
    (hend : ∀ (v : Nat → Value) (w : World), Below w0.heap.size w0 w → (∀ i, i < m → kdOf ks i (v i) w) → Oper.wp P last (upto ops v a0 m) w (fun a' w' => Q .normal a' w') (NoPanic Q)) :
    (Code.region id ops false).wp P Q a0 w0 := by
  refine wp_region_noPanic (wp_region ?_)
  have T := tidy_of hT
  have e : List.range ops.size = List.range' (m - m) m ++ [m] := by
    rw [hsz, List.range_succ, List.range_eq_range', Nat.sub_self]
  rw [e]
  have h := plain_ops (Q := Q) (C := fun W => Below w0.heap.size w0 W) (R := fun w w' => Below w.heap.size w w') (A := kdOf ks) m (by omega) [m] T (fun _ _ _ _ h hb => Kd.later h hb) (fun i o hi ho => step_of_u T ho (by
    have := steps_from (ops.toList.take m) 0 hstep i o (by rw [List.getElem?_take, if_pos hi]; simpa using ho)
    rwa [Nat.zero_add] at this)) (fun v w hC hall => by
      unfold wpOps
      simp only [hl]
      rw [if_pos (by simp [Region.wanted, hlg])]
      exact .inl (hend v w hC hall)) m (Nat.le_refl _) (fun _ => undef) w0 (Below.refl _ _) (fun i hi => by omega)
  rw [Nat.sub_self] at h ⊢
  exact h
theorem plain_struct {id : Nat} {w0 : World} (m : Nat) (last : Oper) (ks : List Kd) (jx jy : Nat) (dx dy : Tmp) (ty t : TypeId) (old new : Array Value)
    (hsz : ops.size = m + 1) (hl : ops[m]? = some last) (hlg : last.guard = none) (hlB : lastB ops m = true) (hm : P.follows .mixedOrders = true) (hT : tidyB ops a0.tmps.size = true)
    (ho : last.op = .store ty (.tmp dx) (.tmp dy)) (hdl : last.dst = none) (hx : (ops[jx]?).bind (·.dst) = some dx) (hy : (ops[jy]?).bind (·.dst) = some dy) (hjx : jx < m) (hjy : jy < m)
    (hkx : ks.getD jx .any = .blk w0.heap.size old t) (hky : ks.getD jy .any = .is (.agg new)) (hon : old.size = new.size) (h1 : new.all (·.oneCell') = true) (hi : (P.info? ty).map (·.size) = some new.size)
    (hstep : StepsFrom (StepU P ops (fun W => Below w0.heap.size w0 W) (fun w w' => Below w.heap.size w w') (kdOf ks) a0) 0 (ops.toList.take m))
    (hend : ∀ (v : Nat → Value) (w : World) (B : Nat), Below w0.heap.size w0 w → v jx = .pointer (some ⟨B, 0, none⟩) → w0.heap.size ≤ B → w.heap[B]? = some (.cells new t) → (∀ i x, i < m → ks.getD i .any = .is x → v i = x) → Q .normal (upto ops v a0 m) w) :
    (Code.region id ops false).wp P Q a0 w0 := by
  refine plain_store m last ks hsz hl hlg hlB hm hT hstep (fun v w hC hall => ?_)
  have T := tidy_of hT
  have hU := InF.upto (v := v) T m (by omega)
  have hxk := hall jx hjx
  have hyk := hall jy hjy
  unfold kdOf at hxk hyk
  rw [hkx] at hxk
  rw [hky] at hyk
  obtain ⟨B, e, hn, hB⟩ := hxk
  have e2 : v jy = .agg new := hyk
  have ev : ∀ j d, j < m → (ops[j]?).bind (·.dst) = some d → (upto ops v a0 m).eval (.tmp d) = v j := fun j d hj hjd => by
    obtain ⟨oj, hoj, hdj⟩ := Option.bind_eq_some_iff.1 hjd
    simp only [Act.eval, Array.getD_eq_getD_getElem?, hU.done j oj d hoj hdj hj, Option.getD_some]
  have hth : w.there B 0 new.size := fun j hj => by
    refine ⟨?_, by simp [World.frozen?, hB]⟩
    have : j < old.size := by omega
    simp [World.cell?, hB, this]
  refine wp_store_mid ty (.tmp dx) (.tmp dy) ho B 0 new ((ev jx dx hjx hx).trans e) ((ev jy dy hjy hy).trans e2) hth hi h1 ?_
  have hheap := setCells_heap new.toList w B 0 old t hB (by simpa using hon.symm)
  simp only [List.take_zero, List.nil_append, Array.toArray_toList] at hheap
  rw [hdl]
  refine hend v _ B (Go.below_setCells hn _ _ _ hC) e hn hheap (fun i x hi hk => ?_)
  have := hall i hi
  unfold kdOf at this
  rw [hk] at this
  exact this

/-- .. where the last operation stores a struct that was built into a block that is known -/
theorem plain_into {id : Nat} {w0 : World} (m : Nat) (last : Oper) (ks : List Kd) (jy : Nat) (dx dy : Tmp) (ty t : TypeId) (g : Nat) (old new : Array Value)
    (hsz : ops.size = m + 1) (hl : ops[m]? = some last) (hlg : last.guard = none) (hlB : lastB ops m = true) (hm : P.follows .mixedOrders = true) (hT : tidyB ops a0.tmps.size = true)
    (ho : last.op = .store ty (.tmp dx) (.tmp dy)) (hdl : last.dst = none) (hx : ∀ j, j < m → (ops[j]?).bind (·.dst) ≠ some dx) (hx0 : a0.eval (.tmp dx) = .pointer (some ⟨g, 0, none⟩)) (hy : (ops[jy]?).bind (·.dst) = some dy) (hjy : jy < m)
    (hg : w0.heap[g]? = some (.cells old t)) (hky : ks.getD jy .any = .is (.agg new)) (hon : old.size = new.size) (h1 : new.all (·.oneCell') = true) (hi : (P.info? ty).map (·.size) = some new.size)
    (hstep : StepsFrom (StepU P ops (fun W => Below w0.heap.size w0 W) (fun w w' => Below w.heap.size w w') (kdOf ks) a0) 0 (ops.toList.take m))
    (hend : ∀ (v : Nat → Value) (w : World), (∀ B, B ≤ g → Below B w0 w) → w.heap[g]? = some (.cells new t) → (∀ i x, i < m → ks.getD i .any = .is x → v i = x) → Q .normal (upto ops v a0 m) w) :
    (Code.region id ops false).wp P Q a0 w0 := by
  refine plain_store m last ks hsz hl hlg hlB hm hT hstep (fun v w hC hall => ?_)
  have T := tidy_of hT
  have hU := InF.upto (v := v) T m (by omega)
  have hyk := hall jy hjy
  unfold kdOf at hyk
  rw [hky] at hyk
  have e2 : v jy = .agg new := hyk
  have hgl : g < w0.heap.size := (Array.getElem?_eq_some_iff.1 hg).1
  have hB : w.heap[g]? = some (.cells old t) := (hC.block g hgl).trans hg
  have ev : ∀ j d, j < m → (ops[j]?).bind (·.dst) = some d → (upto ops v a0 m).eval (.tmp d) = v j := fun j d hj hjd => by
    obtain ⟨oj, hoj, hdj⟩ := Option.bind_eq_some_iff.1 hjd
    simp only [Act.eval, Array.getD_eq_getD_getElem?, hU.done j oj d hoj hdj hj, Option.getD_some]
  have ex : (upto ops v a0 m).eval (.tmp dx) = .pointer (some ⟨g, 0, none⟩) := by
    have := hU.rest dx (fun j oj hoj hj hdj => hx j hj (by rw [hoj]; exact hdj))
    rw [← hx0]
    simp only [Act.eval, Array.getD_eq_getD_getElem?, this]
  have hth : w.there g 0 new.size := fun j hj => by
    refine ⟨?_, by simp [World.frozen?, hB]⟩
    have : j < old.size := by omega
    simp [World.cell?, hB, this]
  refine wp_store_mid ty (.tmp dx) (.tmp dy) ho g 0 new ex ((ev jy dy hjy hy).trans e2) hth hi h1 ?_
  have hheap := setCells_heap new.toList w g 0 old t hB (by simpa using hon.symm)
  simp only [List.take_zero, List.nil_append, Array.toArray_toList] at hheap
  rw [hdl]
  refine hend v _ (fun B hBg => Go.below_setCells hBg _ _ _ (hC.mono (by omega))) hheap (fun i x hi hk => ?_)
  have := hall i hi
  unfold kdOf at this
  rw [hk] at this
  exact this
theorem loadVar_blk {W : World} {B : Nat} {cs : Array Value} {t ty : TypeId} {d : TypeDesc} (h : W.heap[B]? = some (.cells cs t)) (hu : P.underlying ty = some d) (hd : d.isRow = true) (hi : (P.info? ty).map (·.size) = some cs.size) :
    (loadVar ty ⟨B, 0, none⟩).run P W = .ok (.agg cs) W := by
  have := run_loadVar_mid (P := P) W B 0 ty cs.toList d (fun j v hv => by rw [blk_cell h, Nat.zero_add]; simpa using hv) hu hd (by simpa using hi)
  simpa using this
theorem loadAt_blk {W : World} {B : Nat} {cs : Array Value} {t ty : TypeId} {d : TypeDesc} (h : W.heap[B]? = some (.cells cs t)) (hu : P.underlying ty = some d) (hd : d.isRow = true) (hi : (P.info? ty).map (·.size) = some cs.size) :
    (Instr.loadAt ty (.pointer (some ⟨B, 0, none⟩))).run P W = .ok (.agg cs) W := by
  simp only [Instr.loadAt, Instr.sureAddr, Sem.run_bind, Sem.run_pure, Result.andThen_ok, loadVar_blk h hu hd hi]
theorem loadAt_part {W : World} {B o : Nat} {cs : Array Value} (l : List Value) {t ty : TypeId} {d : TypeDesc} (h : W.heap[B]? = some (.cells cs t)) (hl : (cs.toList.drop o).take l.length = l) (hu : P.underlying ty = some d) (hd : d.isRow = true) (hi : (P.info? ty).map (·.size) = some l.length) :
    (Instr.loadAt ty (.pointer (some ⟨B, o, none⟩))).run P W = .ok (.agg l.toArray) W := by
  refine run_loadAt_mid W B o ty l d (fun j v hv => ?_) hu hd hi
  rw [blk_cell h]
  have hj : j < l.length := (List.getElem?_eq_some_iff.1 hv).1
  have h2 : ((cs.toList.drop o).take l.length)[j]? = some v := by rw [hl]; exact hv
  rw [List.getElem?_take, if_pos hj, List.getElem?_drop] at h2
  simpa using h2
theorem wpList_load_part {op : Oper} {rest : List Oper} {a : Act} {w : World} (ty : TypeId) (x : Operand) (ho : op.op = .load ty x) (hw : Region.wanted op (yielded ops a.tmps) = true) {B o : Nat} {cs : Array Value} (l : List Value) {t : TypeId} {d : TypeDesc}
    (hx : a.eval x = .pointer (some ⟨B, o, none⟩)) (h : w.heap[B]? = some (.cells cs t)) (hl : (cs.toList.drop o).take l.length = l) (hu : P.underlying ty = some d) (hd : d.isRow = true) (hi : (P.info? ty).map (·.size) = some l.length)
    (hk : wpList P ops Q rest (a.put op.dst (.agg l.toArray)) w) : wpList P ops Q (op :: rest) a w := by
  refine BigFrame.wpList_want hw fun K hK => wp_load_mid ty x ho B o hx l d (fun j v hv => ?_) hu hd hi (hK _ _ hk)
  rw [blk_cell h]
  have hj : j < l.length := (List.getElem?_eq_some_iff.1 hv).1
  have h2 : ((cs.toList.drop o).take l.length)[j]? = some v := by rw [hl]; exact hv
  rw [List.getElem?_take, if_pos hj, List.getElem?_drop] at h2
  simpa using h2
theorem wpList_load_blk {op : Oper} {rest : List Oper} {a : Act} {w : World} (ty : TypeId) (x : Operand) (ho : op.op = .load ty x) (hw : Region.wanted op (yielded ops a.tmps) = true) {B : Nat} {cs : Array Value} {t : TypeId} {d : TypeDesc}
    (hx : a.eval x = .pointer (some ⟨B, 0, none⟩)) (h : w.heap[B]? = some (.cells cs t)) (hu : P.underlying ty = some d) (hd : d.isRow = true) (hi : (P.info? ty).map (·.size) = some cs.size)
    (hk : wpList P ops Q rest (a.put op.dst (.agg cs)) w) : wpList P ops Q (op :: rest) a w := by
  refine wpList_load_part ty x ho hw (o := 0) cs.toList hx h (by rw [List.drop_zero, List.take_length]) hu hd (by simpa using hi) ?_
  simpa using hk
theorem results_cell {fn : Func} {tmps : Array Value} {a : Tmp} {t : TypeId} {g : Nat} {v : Value} {w : World} (hf : fn.results = #[.cell a t]) (ha : tmps.getD a undef = .pointer (some ⟨g, 0, none⟩)) (hl : (loadVar t ⟨g, 0, none⟩).run P w = .ok v w) :
    (results fn tmps).run P w = .ok v w := by
  have ha2 : tmps[a]?.getD undef = .pointer (some ⟨g, 0, none⟩) := by rw [← ha, Array.getD_eq_getD_getElem?]
  simp only [results, hf]
  simp [ha2, asAddr, hl]
end Go.Proofs.YtbhemimhmkgfiaaDoor
