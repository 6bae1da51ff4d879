/- Proved here: a law on a range over a function whose iterator may itself range over another one, in the wide fence (no program of its own). · Proved here: impl.isEcho answers whether a Kind is an ask or a reply, and leaves memory alone (no conditions). · Proved here: impl.TupleRight answers whether a tuple is right; all old memory stays (no conditions). -/
import Derived.RangeFuncNested
import Derived.RangeFuncBound
import Derived.RangeFuncCalls
import Derived.RangeFuncLeaves
import Derived.RangeFuncWrites
import Derived.WalkKit
import Derived.OwnWalkIn
import Derived.Below
import Derived.Test.YtilajoafppplcaaGrow
import Derived.Test.YtilajoafppplcaaAll5
import Derived.Test.YtilajoafppplcaaAll3
import Derived.Test.YtilajoafppplcaaAll27
section
namespace Go.Proofs.Ytilajoafppplcaa
open Go.RowKit
set_option linter.unusedVariables false
set_option linter.unusedSimpArgs false
variable {P : Program} {Q : Exit → Act → World → Prop} {a : Act} {w : World}

theorem own_grown {β : Type} {n : Nat} {J : β → World → Prop} (hJ : OwnFrom n J) {s : β} {A B : World} (hs : J s A) (h : Below A.heap.size A B) : J s B :=
  hJ s A B none hs ⟨h.os, h.tape, h.output, h.size, fun k hk _ => h.block k hk⟩ (fun r e => by cases e)
/-- what a round of mine pays at its ways out -/
def overPost {α : Type} (B : Nat) (I Ix : List α → World → Prop) (xs : List α) (V : World) : Exit → Act → World → Prop
  | .normal, _, V' => Below V.heap.size V V' ∧ I xs V'
  | .ret, _, V' => KeepsFrom B V V' ∧ Ix xs V'
  | _, _, _ => False
/-- what is asked of an iterator: whatever the body, it hands over the list, in its order, till the body has enough -/
def HandsOver {α : Type} (n : Nat) (P : Program) (gf : Nat) (lb : Array Value) (encs : α → Array Value) (S : List α) (w : World) : Prop :=
  ∀ (lr : Nat) (J Jx : List α → World → Prop) (V : World), Below w.heap.size w V → OwnFrom V.heap.size J → OwnFrom V.heap.size Jx → J [] V →
    (∀ pre x V1 m, J pre V1 → YieldAt Fence.wide m P lr (encs x) V1 fun e V' =>
      (e = .returned (.bool true) ∧ J (pre ++ [x]) V' ∧ Below V1.heap.size V1 V') ∨ (e = .returned (.bool false) ∧ Jx (pre ++ [x]) V' ∧ KeepsFrom V.heap.size V1 V')) →
    CallsIn Fence.wide n P gf (#[.func (.yield lr) #[] #[]] ++ lb) V fun e V' => (∃ v, e = .returned v) ∧ (J S V' ∨ ∃ pre, pre <+: S ∧ Jx pre V')
theorem range_over {α : Type} (n : Nat) {g : Operand} {ps : Array Tmp} {assign body : Code} {gf : Nat} {lb : Array Value} (hg : a.eval g = .func (.func gf) #[] lb) (eg : ∀ args w, (callFunc gf args).run P w = .ok (.enter gf args) w)
    {encs : α → Array Value} (hps : ∀ x, (encs x).size = ps.size) {S : List α} (hit : HandsOver (n - 1) P gf lb encs S w)
    (I Ix : List α → World → Prop) (hI : OwnFrom w.heap.size I) (hIx : OwnFrom w.heap.size Ix) (h0 : I [] w) (Ax : α → Act → World → Prop) (hAx : ∀ x a', OwnFrom w.heap.size (fun (_ : Unit) V => Ax x a' V))
    (hassign : ∀ (l : Nat) (pre : List α) (x : α) (V : World) (K : Act → World → Prop) (m : Nat), I pre V → (∀ a' V', Below V.heap.size V V' → Ax x a' V' → K a' V') →
      assign.wpIn (Fence.wide.inRound l) m P (Exit.then K (fun _ _ _ => False)) { tmps := (ps.zip (encs x)).foldl (fun t (p, v) => t.setIfInBounds p v) a.tmps, defers := [] } V)
    (hbody : ∀ (l : Nat) (pre : List α) (x : α) (a' : Act) (V : World) (m : Nat), w.heap.size ≤ V.heap.size → I pre V → Ax x a' V → body.wpIn (Fence.wide.inRound l) m P (overPost w.heap.size I Ix (pre ++ [x]) V) a' V)
    (hdone : ∀ (D : Nat) (V : World), w.heap.size ≤ D → I S V → V.heap[D]? = some (.deferred (some [])) → Q .normal { a with defers := { target := .collected D, args := #[] } :: a.defers } V)
    (hstop : ∀ (D : Nat) (pre : List α) (V : World), w.heap.size ≤ D → pre <+: S → Ix pre V → V.heap[D]? = some (.deferred (some [])) → Code.ret.wpIn Fence.wide n P Q { a with defers := { target := .collected D, args := #[] } :: a.defers } V) :
    (Code.rangeFunc g ps assign body).wpIn Fence.wide n P Q a w := by
  refine wpIn_rangeFunc fun fn hfn => ?_
  -- the loop's record in its states
  let rc : LoopState → Option Code → Loop := fun st pe => { state := st, pending := pe, fn, tmps := a.tmps, params := ps, assign, body, defers := w.heap.size }
  have e1 : ∀ o : Obj, (w.alloc o).heap.size = w.heap.size + 1 := fun o => by simp
  generalize hW1 : (w.alloc (.deferred (some []))).alloc (.loop (rc .ready none)) = W1
  have sz : W1.heap.size = w.heap.size + 2 := by rw [← hW1]; simp
  have hb1 : Below w.heap.size w W1 := by rw [← hW1]; exact ((Below.refl _ w).alloc (Nat.le_refl _) _).alloc (by simp) _
  have atD : W1.heap[w.heap.size]? = some (.deferred (some [])) := by
    have h := heap_newG w (.deferred (some []))
    rw [← hW1]
    exact (((Below.refl _ (w.alloc (.deferred (some [])))).alloc (Nat.le_refl _) _).block _ (by simp)).trans h
  have atL : W1.heap[w.heap.size + 1]? = some (.loop (rc .ready none)) := by
    have h := heap_newG (w.alloc (.deferred (some []))) (.loop (rc .ready none))
    rw [← hW1]; simpa using h
  have hI1 : I [] W1 := by rw [← hW1]; exact hI.alloc _ (hI.alloc _ h0)
  -- a block of the book-keeping lies as it lay where another one is turned
  have stay : ∀ {A B : World} {row : Option Nat} {k : Nat} {o : Obj}, A.grownBy B row → (∀ r, row = some r → W1.heap.size ≤ r ∧ ∃ o : Obj, A.heap[r]? = some o ∧ o.isCells = false) → k < W1.heap.size → A.heap[k]? = some o → B.heap[k]? = some o := fun hgr hr hk ho =>
    (hgr.block _ (Array.getElem?_eq_some_iff.1 ho).1 (fun e => by have := (hr _ e.symm).1; omega)).trans ho
  refine ⟨w.heap.size + 1, [{ target := .collected w.heap.size, args := #[] }], W1, { target := .fn (.func gf) lb, args := #[.func (.yield (w.heap.size + 1)) #[] #[]] }, W1, gf, #[.func (.yield (w.heap.size + 1)) #[] #[]] ++ lb, W1, ?_, ?_, ?_, ?_, (fun h => by cases h), ?_⟩
  · rw [← hW1]; exact run_enterLoop_outer _ _ _ _ _
  · simp only [resolve, hg]; simp [go_sem]
  · intro f' _; trivial
  · simp [invoke, go_sem, eg]
  refine (hit (w.heap.size + 1) (fun pre V => I pre V ∧ V.heap[w.heap.size + 1]? = some (.loop (rc .ready none)) ∧ V.heap[w.heap.size]? = some (.deferred (some [])))
    (fun pre V => Ix pre V ∧ V.heap[w.heap.size + 1]? = some (.loop (rc .done (some .ret))) ∧ V.heap[w.heap.size]? = some (.deferred (some []))) W1 hb1
    (fun s A B row h hgr hr => ⟨hI s A B row h.1 hgr (fun r e => ⟨by have := (hr r e).1; omega, (hr r e).2⟩), stay hgr hr (by omega) h.2.1, stay hgr hr (by omega) h.2.2⟩)
    (fun s A B row h hgr hr => ⟨hIx s A B row h.1 hgr (fun r e => ⟨by have := (hr r e).1; omega, (hr r e).2⟩), stay hgr hr (by omega) h.2.1, stay hgr hr (by omega) h.2.2⟩)
    ⟨hI1, atL, atD⟩ ?rounds).mono ?behind
  case rounds =>
    rintro pre x V m ⟨hi, hl, hd⟩
    have hlt := (Array.getElem?_eq_some_iff.1 hl).1
    refine ⟨_, _, _, _, run_yield (P := P) (args := encs x) hl (hps x), roundIn_of_wpIn hfn (hassign (w.heap.size + 1) pre x V _ m hi ?_)⟩
    intro a' Va hba hax
    have hla : Va.heap[w.heap.size + 1]? = some (.loop (rc .ready none)) := (hba.block _ hlt).trans hl
    have hda : Va.heap[w.heap.size]? = some (.deferred (some [])) := (hba.block _ (by omega)).trans hd
    have hlta := (Array.getElem?_eq_some_iff.1 hla).1
    refine ⟨_, run_beginRound hla rfl, ?_⟩
    have hlb : (Va.putObj (w.heap.size + 1) (.loop (rc .busy none))).heap[w.heap.size + 1]? = some (.loop (rc .busy none)) := World.putObj_heap_same hlta
    have hdb : (Va.putObj (w.heap.size + 1) (.loop (rc .busy none))).heap[w.heap.size]? = some (.deferred (some [])) := (World.putObj_heap_other (by omega)).trans hda
    have hsb : (Va.putObj (w.heap.size + 1) (.loop (rc .busy none))).heap.size = Va.heap.size := by simp [World.putObj]
    have hib : I pre (Va.putObj (w.heap.size + 1) (.loop (rc .busy none))) := hI.putObj _ (own_grown hI hi hba) (by omega) hla rfl
    have hxb : Ax x a' (Va.putObj (w.heap.size + 1) (.loop (rc .busy none))) := (hAx x a').putObj (s := ()) _ hax (by omega) hla rfl
    refine wpIn_mono (hbody (w.heap.size + 1) pre x a' _ m (by rw [hsb]; omega) hib hxb) ?_
    rintro e a3 V3 hp
    cases e with
    | normal =>
      obtain ⟨hb3, hi3⟩ := hp
      have hl3 := (hb3.block _ (by rw [hsb]; omega)).trans hlb
      have hd3 := (hb3.block _ (by rw [hsb]; omega)).trans hdb
      have hlt3 := (Array.getElem?_eq_some_iff.1 hl3).1
      refine ⟨_, _, run_endRound none hl3, .inl ⟨rfl, ⟨hI.putObj _ hi3 (by omega) hl3 rfl, World.putObj_heap_same hlt3, (World.putObj_heap_other (by omega)).trans hd3⟩, ?_⟩⟩
      refine ⟨hb3.os.trans hba.os, hb3.tape.trans hba.tape, hb3.output.trans hba.output, ?_, fun k hk => ?_⟩
      · have := hb3.size; have := hba.size; rw [hsb] at *; simp [World.putObj]; omega
      · by_cases e : k = w.heap.size + 1
        · subst e; exact (World.putObj_heap_same hlt3).trans hl.symm
        · exact (World.putObj_heap_other e).trans ((hb3.block k (by rw [hsb]; have := hba.size; omega)).trans ((World.putObj_heap_other e).trans (hba.block k hk)))
    | ret =>
      obtain ⟨hk3, hx3⟩ := hp
      have hl3 := hk3.same _ _ (by omega) hlb rfl
      have hd3 := hk3.same _ _ (Nat.le_refl _) hdb rfl
      have hlt3 := (Array.getElem?_eq_some_iff.1 hl3).1
      refine ⟨_, _, run_endRound (some .ret) hl3, .inr ⟨rfl, ⟨hIx.putObj _ hx3 (by omega) hl3 rfl, World.putObj_heap_same hlt3, (World.putObj_heap_other (by omega)).trans hd3⟩, ?_⟩⟩
      refine ⟨?_, fun k o hk ho hc => ?_⟩
      · have := hk3.size; have := hba.size; rw [hsb] at *; simp [World.putObj]; omega
      · have e : k ≠ w.heap.size + 1 := by omega
        exact (World.putObj_heap_other e).trans (hk3.same k o (by omega) ((World.putObj_heap_other e).trans ((hba.block k (Array.getElem?_eq_some_iff.1 ho).1).trans ho)) hc)
    | exit id => exact hp.elim
    | goto t => exact hp.elim
    | panic ch => exact hp.elim
    | outgrown => exact hp.elim
  case behind =>
    rintro e V2 ⟨⟨v, rfl⟩, (⟨hi, hl, hd⟩ | ⟨pre, hpre, hx, hl, hd⟩)⟩
    · exact ⟨none, _, run_endLoop hl (by simp [rc]), hdone _ _ (Nat.le_refl _) (hI.putObj _ hi (by omega) hl rfl) ((World.putObj_heap_other (by omega)).trans hd)⟩
    · exact ⟨some .ret, _, run_endLoop hl (by simp [rc]), hstop _ pre _ (Nat.le_refl _) hpre (hIx.putObj _ hx (by omega) hl rfl) ((World.putObj_heap_other (by omega)).trans hd)⟩
end Go.Proofs.Ytilajoafppplcaa
end

section
namespace Go.Proofs.Ytilajoafppplcaa
open Go.ChangeShapes Go.WideShapes Go.ChangeAt Go.RowKit
set_option linter.unusedVariables false

theorem isEcho_any (k : Int) (w : World) :
    Calls Try.prog 109 #[.int .i64 k] w fun e w' => e = .returned (.bool (echoB k)) ∧ w' = w := by
  by_cases h8 : k = 8
  · subst h8
    go_enter Try.func109, Try.ntmps109
    go_wp2
    go_ret
    exact ⟨rfl, rfl⟩
  · have h8' : (k == 8) = false := beq_eq_false_iff_ne.2 h8
    have e : Hid (echoB k = (k == 0)) := by show _ = _; unfold echoB; rw [decide_eq_false h8]; simp [BEq.beq]
    go_enter Try.func109, Try.ntmps109
    go_wp2
    go_ret
    exact ⟨by rw [e.out]; rfl, rfl⟩
end Go.Proofs.Ytilajoafppplcaa
end

section
namespace Go.Proofs.Ytilajoafppplcaa
open Go.ChangeShapes Go.WideShapes Go.ChangeAt Go.RowKit
set_option linter.unusedVariables false

theorem right_of_cases (t : Tp) : rightT t = (allA [t.src, t.dst] && allW [t.sport, t.dport] && (if t.proto = 1 then echoB t.kind && decide (t.sport = t.dport) else (decide (t.proto = 6) || decide (t.proto = 17)) && decide (t.kind = 0))) := by
  unfold rightT allA allW; simp [Bool.and_assoc]

set_option maxHeartbeats 2000000 in
theorem implTRight_any (t : Tp) (w : World) :
    Calls Try.prog 67 #[.agg #[.int .i64 t.proto, .int .i64 t.src, .int .i64 t.sport, .int .i64 t.dst, .int .i64 t.dport, .int .i64 t.kind]] w fun e w' => e = .returned (.bool (rightT t)) ∧ Below w.heap.size w w' := by
  have HB2 := fun o o2 => hidS (((Below.refl w.heap.size w).alloc (Nat.le_refl _) o).alloc (by simp) o2)
  have HB3 := fun o o2 o3 => hidS ((((Below.refl w.heap.size w).alloc (Nat.le_refl _) o).alloc (by simp) o2).alloc (by simp; omega) o3)
  cases h1 : allA [t.src, t.dst]
  · have e : Hid (rightT t = false) := by unfold Hid; rw [right_of_cases]; simp_all
    go_enter Try.func67, Try.ntmps67
    go_wp2_with fail
    refine (areAddrs_any (w.heap.size + 1) [t.src, t.dst] _ (two_cells1 _ _ _ _ _) (by simp)).mono ?_
    rintro _ w1 ⟨rfl, rfl⟩
    rw [h1]
    go_wp2_with fail
    go_ret
    exact ⟨by rw [e.out]; rfl, (HB2 _ _).out⟩
  cases h2 : allW [t.sport, t.dport]
  · have e : Hid (rightT t = false) := by unfold Hid; rw [right_of_cases]; simp_all
    go_enter Try.func67, Try.ntmps67
    go_wp2_with fail
    refine (areAddrs_any (w.heap.size + 1) [t.src, t.dst] _ (two_cells1 _ _ _ _ _) (by simp)).mono ?_
    rintro _ w1 ⟨rfl, rfl⟩
    rw [h1]
    go_wp2_with fail
    refine (areWords_any (w.heap.size + 2) [t.sport, t.dport] _ (two_cells2 _ _ _ _ _ _) (by simp)).mono ?_
    rintro _ w1 ⟨rfl, rfl⟩
    rw [h2]
    go_wp2_with fail
    go_ret
    exact ⟨by rw [e.out]; rfl, (HB3 _ _ _).out⟩
  by_cases p6 : t.proto = 6
  · have p6' : (t.proto == 6) = true := beq_iff_eq.2 p6
    by_cases hk : t.kind = 0
    · have hk' : (t.kind == 0) = true := beq_iff_eq.2 hk
      have e : Hid (rightT t = true) := by unfold Hid; rw [right_of_cases]; simp_all
      go_enter Try.func67, Try.ntmps67
      go_wp2_with fail
      refine (areAddrs_any (w.heap.size + 1) [t.src, t.dst] _ (two_cells1 _ _ _ _ _) (by simp)).mono ?_
      rintro _ w1 ⟨rfl, rfl⟩
      rw [h1]
      go_wp2_with fail
      refine (areWords_any (w.heap.size + 2) [t.sport, t.dport] _ (two_cells2 _ _ _ _ _ _) (by simp)).mono ?_
      rintro _ w1 ⟨rfl, rfl⟩
      rw [h2]
      go_wp2_with fail
      go_ret
      exact ⟨by rw [e.out]; rfl, (HB3 _ _ _).out⟩
    · have hk' : (t.kind == 0) = false := beq_eq_false_iff_ne.2 hk
      have e : Hid (rightT t = false) := by unfold Hid; rw [right_of_cases]; simp_all
      go_enter Try.func67, Try.ntmps67
      go_wp2_with fail
      refine (areAddrs_any (w.heap.size + 1) [t.src, t.dst] _ (two_cells1 _ _ _ _ _) (by simp)).mono ?_
      rintro _ w1 ⟨rfl, rfl⟩
      rw [h1]
      go_wp2_with fail
      refine (areWords_any (w.heap.size + 2) [t.sport, t.dport] _ (two_cells2 _ _ _ _ _ _) (by simp)).mono ?_
      rintro _ w1 ⟨rfl, rfl⟩
      rw [h2]
      go_wp2_with fail
      go_ret
      exact ⟨by rw [e.out]; rfl, (HB3 _ _ _).out⟩
  · have p6' : (t.proto == 6) = false := beq_eq_false_iff_ne.2 p6
    by_cases p17 : t.proto = 17
    · have p17' : (t.proto == 17) = true := beq_iff_eq.2 p17
      by_cases hk : t.kind = 0
      · have hk' : (t.kind == 0) = true := beq_iff_eq.2 hk
        have e : Hid (rightT t = true) := by unfold Hid; rw [right_of_cases]; simp_all
        go_enter Try.func67, Try.ntmps67
        go_wp2_with fail
        refine (areAddrs_any (w.heap.size + 1) [t.src, t.dst] _ (two_cells1 _ _ _ _ _) (by simp)).mono ?_
        rintro _ w1 ⟨rfl, rfl⟩
        rw [h1]
        go_wp2_with fail
        refine (areWords_any (w.heap.size + 2) [t.sport, t.dport] _ (two_cells2 _ _ _ _ _ _) (by simp)).mono ?_
        rintro _ w1 ⟨rfl, rfl⟩
        rw [h2]
        go_wp2_with fail
        go_ret
        exact ⟨by rw [e.out]; rfl, (HB3 _ _ _).out⟩
      · have hk' : (t.kind == 0) = false := beq_eq_false_iff_ne.2 hk
        have e : Hid (rightT t = false) := by unfold Hid; rw [right_of_cases]; simp_all
        go_enter Try.func67, Try.ntmps67
        go_wp2_with fail
        refine (areAddrs_any (w.heap.size + 1) [t.src, t.dst] _ (two_cells1 _ _ _ _ _) (by simp)).mono ?_
        rintro _ w1 ⟨rfl, rfl⟩
        rw [h1]
        go_wp2_with fail
        refine (areWords_any (w.heap.size + 2) [t.sport, t.dport] _ (two_cells2 _ _ _ _ _ _) (by simp)).mono ?_
        rintro _ w1 ⟨rfl, rfl⟩
        rw [h2]
        go_wp2_with fail
        go_ret
        exact ⟨by rw [e.out]; rfl, (HB3 _ _ _).out⟩
    · have p17' : (t.proto == 17) = false := beq_eq_false_iff_ne.2 p17
      by_cases p1 : t.proto = 1
      · have p1' : (t.proto == 1) = true := beq_iff_eq.2 p1
        cases hk : echoB t.kind
        · have e : Hid (rightT t = false) := by unfold Hid; rw [right_of_cases]; simp_all
          go_enter Try.func67, Try.ntmps67
          go_wp2_with fail
          refine (areAddrs_any (w.heap.size + 1) [t.src, t.dst] _ (two_cells1 _ _ _ _ _) (by simp)).mono ?_
          rintro _ w1 ⟨rfl, rfl⟩
          rw [h1]
          go_wp2_with fail
          refine (areWords_any (w.heap.size + 2) [t.sport, t.dport] _ (two_cells2 _ _ _ _ _ _) (by simp)).mono ?_
          rintro _ w1 ⟨rfl, rfl⟩
          rw [h2]
          go_wp2_with fail
          refine (isEcho_any _ _).mono ?_
          rintro _ w1 ⟨rfl, rfl⟩
          rw [hk]
          go_wp2_with fail
          go_ret
          exact ⟨by rw [e.out]; rfl, (HB3 _ _ _).out⟩
        by_cases hp : t.sport = t.dport
        · have hp' : (t.sport == t.dport) = true := beq_iff_eq.2 hp
          have e : Hid (rightT t = true) := by unfold Hid; rw [right_of_cases]; simp_all
          clear hp
          go_enter Try.func67, Try.ntmps67
          go_wp2_with fail
          refine (areAddrs_any (w.heap.size + 1) [t.src, t.dst] _ (two_cells1 _ _ _ _ _) (by simp)).mono ?_
          rintro _ w1 ⟨rfl, rfl⟩
          rw [h1]
          go_wp2_with fail
          refine (areWords_any (w.heap.size + 2) [t.sport, t.dport] _ (two_cells2 _ _ _ _ _ _) (by simp)).mono ?_
          rintro _ w1 ⟨rfl, rfl⟩
          rw [h2]
          go_wp2_with fail
          refine (isEcho_any _ _).mono ?_
          rintro _ w1 ⟨rfl, rfl⟩
          rw [hk]
          go_wp2_with fail
          go_ret
          exact ⟨by rw [e.out]; rfl, (HB3 _ _ _).out⟩
        · have hp' : (t.sport == t.dport) = false := beq_eq_false_iff_ne.2 hp
          have e : Hid (rightT t = false) := by unfold Hid; rw [right_of_cases]; simp_all
          clear hp
          go_enter Try.func67, Try.ntmps67
          go_wp2_with fail
          refine (areAddrs_any (w.heap.size + 1) [t.src, t.dst] _ (two_cells1 _ _ _ _ _) (by simp)).mono ?_
          rintro _ w1 ⟨rfl, rfl⟩
          rw [h1]
          go_wp2_with fail
          refine (areWords_any (w.heap.size + 2) [t.sport, t.dport] _ (two_cells2 _ _ _ _ _ _) (by simp)).mono ?_
          rintro _ w1 ⟨rfl, rfl⟩
          rw [h2]
          go_wp2_with fail
          refine (isEcho_any _ _).mono ?_
          rintro _ w1 ⟨rfl, rfl⟩
          rw [hk]
          go_wp2_with fail
          go_ret
          exact ⟨by rw [e.out]; rfl, (HB3 _ _ _).out⟩
      · have p1' : (t.proto == 1) = false := beq_eq_false_iff_ne.2 p1
        have e : Hid (rightT t = false) := by unfold Hid; rw [right_of_cases]; simp_all
        go_enter Try.func67, Try.ntmps67
        go_wp2_with fail
        refine (areAddrs_any (w.heap.size + 1) [t.src, t.dst] _ (two_cells1 _ _ _ _ _) (by simp)).mono ?_
        rintro _ w1 ⟨rfl, rfl⟩
        rw [h1]
        go_wp2_with fail
        refine (areWords_any (w.heap.size + 2) [t.sport, t.dport] _ (two_cells2 _ _ _ _ _ _) (by simp)).mono ?_
        rintro _ w1 ⟨rfl, rfl⟩
        rw [h2]
        go_wp2_with fail
        go_ret
        exact ⟨by rw [e.out]; rfl, (HB3 _ _ _).out⟩
end Go.Proofs.Ytilajoafppplcaa
end
