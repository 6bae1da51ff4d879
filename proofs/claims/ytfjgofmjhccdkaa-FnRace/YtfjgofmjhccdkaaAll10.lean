/- Proved here: impl.linkTo gives the link that leads to the slot of a key, or to the end of its chain; all old memory stays (conditions: the slab's rows can be read; it is right; it may be a key). · Proved here: nothing of a program: rows of slots of one's own. · Proved here: nothing of a program: a slab with other holders of a slot. · Proved here: plain facts and words: the answers of SlabGet and SlabPut, and whether a slot is linked. -/
import Derived.Test.YtfjgofmjhccdkaaSlabLookI
import Derived.Test.YtfjgofmjhccdkaaAll2
import Derived.Deep.OwnRows
import Derived.Maps.AppendAt
import Derived.Test.YtfjgofmjhccdkaaAll8
section
namespace Go.Proofs.Ytfjgofmjhccdkaa
open Go.ChangeShapes Go.WideShapes Go.ChangeAt Go.RowKit
set_option linter.unusedVariables false
set_option linter.unusedSimpArgs false
set_option maxRecDepth 100000

/-- the chain of a key -/
def chN (s : Slb) (key : Int) : Nat := (key.tmod s.heads.length).toNat
theorem chN_lt {s : Slb} {key : Int} (hk : 0 ≤ key) (h : 1 ≤ s.heads.length) : chN s key < s.heads.length ∧ ((chN s key : Nat) : Int) = key.tmod s.heads.length := by
  have h0 := Int.tmod_nonneg (s.heads.length : Int) hk
  have h1 : key.tmod s.heads.length < s.heads.length := Int.tmod_lt_of_pos key (by omega)
  unfold chN
  omega
/-- the link of a key -/
def linkP (s : Slb) (key : Int) : Option Int := (lookC s key (chN s key)).1
/-- where it leads -/
def linkN (s : Slb) (key : Int) : Int := linkV s (chN s key) (linkP s key)
theorem find_neg {s : Slb} {key : Int} : ∀ {l : List Int}, (∀ y ∈ l, 0 ≤ y ∧ y < s.slots.length) → findL s key l = -1 ∨ (0 ≤ findL s key l ∧ findL s key l < s.slots.length ∧ findL s key l ∈ l)
  | [], _ => .inl rfl
  | y :: l, h => by
    unfold findL
    by_cases e : (slotN s y).key = key
    · rw [if_pos e]; exact .inr ⟨(h y (by simp)).1, (h y (by simp)).2, by simp⟩
    · rw [if_neg e]
      rcases find_neg (s := s) (key := key) (l := l) (fun z hz => h z (List.mem_cons_of_mem _ hz)) with q | ⟨q1, q2, q3⟩
      · exact .inl q
      · exact .inr ⟨q1, q2, List.mem_cons_of_mem _ q3⟩
theorem look_find {s : Slb} {key : Int} {c : Nat} : ∀ {l : List Int} {p : Option Int} {x : Int}, (∀ y ∈ l, 0 ≤ y) → IsChain s c x l → (lookL s key p x l).2 = if findL s key l = -1 then -1 - (c : Int) else findL s key l
  | [], p, x, _, h => by
    have h : x = -1 - (c : Int) := h
    unfold lookL findL
    rw [if_pos rfl, h]
  | y :: l, p, x, h0, h => by
    obtain ⟨e, h⟩ := h
    have := h0 y (by simp)
    unfold lookL findL
    by_cases hk : (slotN s y).key = key
    · rw [if_pos (by simpa using hk), if_pos hk, if_neg (by omega)]
    · rw [if_neg (by simpa using hk), if_neg hk]
      rw [← e] at h
      exact look_find (fun z hz => h0 z (List.mem_cons_of_mem _ hz)) h
theorem link_find {s : Slb} {key : Int} (hr : rightSl s = true) (hk : 0 ≤ key) : LinkOk s (linkP s key) ∧ ((findSl s key = -1 ∧ linkN s key = -1 - (chN s key : Int)) ∨ (0 ≤ findSl s key ∧ findSl s key < s.slots.length ∧ linkN s key = findSl s key)) := by
  obtain ⟨_, n1, n2, n3, n4⟩ := right_leads hr
  obtain ⟨hc, he⟩ := chN_lt (s := s) hk n3
  obtain ⟨h1, h2, h3⟩ := right_chain hr hc
  obtain ⟨q1, q2⟩ := look_ok (s := s) (key := key) (c := chN s key) (p := none) h3 trivial h1
  have q3 := look_find (s := s) (key := key) (c := chN s key) (p := none) (fun y hy => (h3 y hy).1) h1
  refine ⟨q1, ?_⟩
  have q4 : linkN s key = (lookL s key none (s.heads.getD (chN s key) 0) (chainOf s (chN s key)).1).2 := q2.symm
  have q5 : findSl s key = findL s key (chainOf s (chN s key)).1 := by unfold findSl; rw [he]
  rw [q4, q3, q5]
  rcases find_neg (s := s) (key := key) h3 with e | ⟨e1, e2, e3⟩
  · rw [if_pos e]; exact .inl ⟨e, rfl⟩
  · rw [if_neg (by omega)]; exact .inr ⟨e1, e2, rfl⟩
set_option maxHeartbeats 2000000 in
theorem linkTo_any (bS oS bH oH cS cH : Nat) (s : Slb) (key : Int) (w : World) (hR : SlabZ (some ⟨bS, oS, none⟩) (some ⟨bH, oH, none⟩) s w) (hr : rightSl s = true) (hk0 : 0 ≤ key) (hk1 : key ≤ 999) :
    Calls Try.prog 66 #[.agg #[.slice (some ⟨bS, oS, none⟩) s.slots.length cS, .slice (some ⟨bH, oH, none⟩) s.heads.length cH], .int .i64 key] w fun e w' => e = .returned (.pointer (some ⟨(adrL bS oS bH oH (chN s key) (linkP s key)).1, (adrL bS oS bH oH (chN s key) (linkP s key)).2, none⟩)) ∧ Below w.heap.size w w' := by
  obtain ⟨_, n1, n2, n3, n4⟩ := right_leads hr
  obtain ⟨hc, he⟩ := chN_lt (s := s) hk0 n3
  have HF := hidS (fun W => chainFor_any (some ⟨bS, oS, none⟩) (some ⟨bH, oH, none⟩) s.slots.length cS s.heads.length cH key W hk0 hk1 (by omega) n3)
  rw [← he] at HF
  have HL := hidS (fun W (h : Below w.heap.size w W) => lookAlong_any bS oS bH oH cS cH s key (chN s key) W (hR.later h) hr hc)
  have HP : Hid ((lookC s key (chN s key)).1 = linkP s key) := hidS rfl
  rw [HP.out] at HL
  clear HP
  generalize (adrL bS oS bH oH (chN s key) (linkP s key)).1 = B at HL ⊢
  generalize (adrL bS oS bH oH (chN s key) (linkP s key)).2 = O at HL ⊢
  generalize chN s key = c at HF HL
  have HA := hidS (heap_newG w (.cells #[.slice (some ⟨bS, oS, none⟩) s.slots.length cS, .slice (some ⟨bH, oH, none⟩) s.heads.length cH] 26))
  have HB0 := hidS ((Below.refl w.heap.size w).alloc (Nat.le_refl _) (.cells #[.slice (some ⟨bS, oS, none⟩) s.slots.length cS, .slice (some ⟨bH, oH, none⟩) s.heads.length cH] 26))
  clear hR hr hk0 hk1 hc he n1 n2 n3 n4
  go_enter Try.func66, Try.ntmps66
  go_wp2_with fail
  generalize w.alloc (.cells #[.slice (some ⟨bS, oS, none⟩) s.slots.length cS, .slice (some ⟨bH, oH, none⟩) s.heads.length cH] 26) = w0 at HA HB0 ⊢
  refine grow_guarded 8 [.is (.agg #[.slice (some ⟨bS, oS, none⟩) s.slots.length cS, .slice (some ⟨bH, oH, none⟩) s.heads.length cH]), .is (.agg #[.slice (some ⟨bS, oS, none⟩) s.slots.length cS, .slice (some ⟨bH, oH, none⟩) s.heads.length cH]), .is (.int .i64 key), .is (.int .i64 (c : Int)), .is (.int .i64 key), .is (.func (.func 109) #[.int .i64 key] #[]), .is (.pointer (some ⟨B, O, none⟩)), .is (.pointer (some ⟨B, O, none⟩))] rfl (by kernel_rfl) (by kernel_rfl) ?steps1 ?fin1
  case steps1 =>
    refine ⟨?_, ?_, ?_, ?_, ?_, ?_, ?_, ?_, trivial⟩
    · refine stepW_of_u ⟨rfl, fun v W ρ hC kc kf ks ki kd => ?_⟩
      have t2 : ρ (.tmp 2) = .pointer (some ⟨w.heap.size, 0, none⟩) := ki 2 (by decide)
      have hg := blk_later HA.out hC
      have c0 := blk_cell hg 0
      have c1 := blk_cell hg 1
      simp at c0 c1
      simp [execOp, go_sem, kc, t2, c0, c1]
      exact ⟨hC, Below.refl _ _, rfl⟩
    · refine stepW_of_u ⟨rfl, fun v W ρ hC kc kf ks ki kd => ?_⟩
      have t2 : ρ (.tmp 2) = .pointer (some ⟨w.heap.size, 0, none⟩) := ki 2 (by decide)
      have hg := blk_later HA.out hC
      have c0 := blk_cell hg 0
      have c1 := blk_cell hg 1
      simp at c0 c1
      simp [execOp, go_sem, kc, t2, c0, c1]
      exact ⟨hC, Below.refl _ _, rfl⟩
    · refine stepW_of_u ⟨rfl, fun v W ρ hC kc kf ks ki kd => ?_⟩
      have t1 : ρ (.tmp 1) = .int .i64 key := ki 1 (by decide)
      simp [execOp, go_sem, kc, t1]
      exact ⟨hC, Below.refl _ _, rfl⟩
    · refine stepW_of_u ⟨rfl, fun v W ρ hC kc kf ks ki kd => ?_⟩
      have d1 : v 1 = .agg #[.slice (some ⟨bS, oS, none⟩) s.slots.length cS, .slice (some ⟨bH, oH, none⟩) s.heads.length cH] := (kdj kd 1 rfl :)
      have t6 : ρ (.tmp 6) = .agg #[.slice (some ⟨bS, oS, none⟩) s.slots.length cS, .slice (some ⟨bH, oH, none⟩) s.heads.length cH] := (ks 1 6 (by decide) rfl).trans d1
      have d2 : v 2 = .int .i64 key := (kdj kd 2 rfl :)
      have t7 : ρ (.tmp 7) = .int .i64 key := (ks 2 7 (by decide) rfl).trans d2
      simp [execOp, go_sem, t6, t7, kf]
      exact Calls.mono (HF.out W) (fun e x h => ⟨_, h.1, hC.trans (h.2.mono hC.size), h.2, rfl⟩)
    · refine stepW_of_u ⟨rfl, fun v W ρ hC kc kf ks ki kd => ?_⟩
      have t1 : ρ (.tmp 1) = .int .i64 key := ki 1 (by decide)
      simp [execOp, go_sem, kc, t1]
      exact ⟨hC, Below.refl _ _, rfl⟩
    · refine stepW_of_u ⟨rfl, fun v W ρ hC kc kf ks ki kd => ?_⟩
      have d4 : v 4 = .int .i64 key := (kdj kd 4 rfl :)
      have t9 : ρ (.tmp 9) = .int .i64 key := (ks 4 9 (by decide) rfl).trans d4
      simp [execOp, go_sem, kc, t9]
      exact ⟨hC, Below.refl _ _, rfl⟩
    · refine stepW_of_u ⟨rfl, fun v W ρ hC kc kf ks ki kd => ?_⟩
      have d0 : v 0 = .agg #[.slice (some ⟨bS, oS, none⟩) s.slots.length cS, .slice (some ⟨bH, oH, none⟩) s.heads.length cH] := (kdj kd 0 rfl :)
      have t5 : ρ (.tmp 5) = .agg #[.slice (some ⟨bS, oS, none⟩) s.slots.length cS, .slice (some ⟨bH, oH, none⟩) s.heads.length cH] := (ks 0 5 (by decide) rfl).trans d0
      have d3 : v 3 = .int .i64 (c : Int) := (kdj kd 3 rfl :)
      have t8 : ρ (.tmp 8) = .int .i64 (c : Int) := (ks 3 8 (by decide) rfl).trans d3
      have d5 : v 5 = .func (.func 109) #[.int .i64 key] #[] := (kdj kd 5 rfl :)
      have t10 : ρ (.tmp 10) = .func (.func 109) #[.int .i64 key] #[] := (ks 5 10 (by decide) rfl).trans d5
      simp [execOp, go_sem, t5, t8, t10, kf]
      exact Calls.mono (HL.out W (HB0.out.trans (hC.mono HB0.out.size))) (fun e x h => ⟨_, h.1, hC.trans (h.2.mono hC.size), h.2, rfl⟩)
    · refine stepW_of_u ⟨rfl, fun v W ρ hC kc kf ks ki kd => ?_⟩
      have d6 : v 6 = .pointer (some ⟨B, O, none⟩) := (kdj kd 6 rfl :)
      have t11 : ρ (.tmp 11) = .pointer (some ⟨B, O, none⟩) := (ks 6 11 (by decide) rfl).trans d6
      simp [execOp, go_sem, kc, t11]
      exact ⟨hC, Below.refl _ _, rfl⟩
  intro v1 W1 hb1 hall
  have hv1 : v1 7 = .pointer (some ⟨B, O, none⟩) := hall 7 (by decide)
  simp [upto, Act.put]
  rw [hv1]
  clear hall hv1
  go_wp2_with fail
  go_ret
  exact ⟨rfl, HB0.out.trans (hb1.mono HB0.out.size)⟩
end Go.Proofs.Ytfjgofmjhccdkaa
end

section
namespace Go.Proofs.Ytfjgofmjhccdkaa
open Go.ChangeShapes Go.WideShapes Go.ChangeAt Go.RowKit
set_option linter.unusedVariables false
set_option linter.unusedSimpArgs false
set_option maxRecDepth 100000

theorem flat_app : ∀ a b : List Slt, flat (a ++ b) = flat a ++ flat b
  | [], b => rfl
  | x :: a, b => by simp [flat, flat_app a b]
theorem infoSlot : (Try.prog.info? 45).map (fun i => (i.zero, i.size, i.bytes)) = some (some (.agg #[.int .i64 0, .int .i64 0, .int .i64 0, .int .i64 0]), 4, 32) := by kernel_rfl
theorem cell_four_new (w : World) (a b c d : Value) (t : TypeId) : ∀ j u, [a, b, c, d][j]? = some u → (w.alloc (.cells #[a, b, c, d] t)).cell? ((⟨w.heap.size, 0, none⟩ : Addr).add j) = some u := by
  intro j u hj
  rw [Addr.add_lit, Nat.zero_add]
  have := blk_cell (heap_newG w (.cells #[a, b, c, d] t)) j
  rw [this]
  simpa using hj
/-- a row of slots of one's own -/
theorem own_slots {W : World} {B lo : Nat} {t : TypeId} {a : Option Addr} {n cap : Nat} {zs : List Int} (h : W.ownsRow B t 4 (.slice a n cap) n (zs.map (.int .i64))) (hB : lo ≤ B) : OwnR lo W.heap.size a zs W := by
  obtain ⟨hl, h⟩ := h
  simp at hl
  rcases h with ⟨e, rfl⟩ | ⟨g, cap', cur, e, hg, hh, hn, _, hs, ht⟩
  · left; exact List.length_eq_zero_iff.1 (by omega)
  · injection e with e _ _
    subst e
    refine .inr ⟨g, 0, rfl, by omega, blk_lt hh, cur, t, hh, fun j hj => ?_⟩
    rw [Nat.zero_add]
    have h1 : (zs.map (Value.int .i64))[j]? = some (.int .i64 (zs.getD j 0)) := by simp [hj]
    rw [← ht, List.getElem?_take, if_pos (by omega)] at h1
    simpa using h1
theorem own_form4 {W : World} {B : Nat} {t : TypeId} {v : Value} {n : Nat} {xs : List Value} (h : W.ownsRow B t 4 v n xs) : ∃ a cap, v = .slice a n cap := by
  rcases h.2 with ⟨rfl, rfl⟩ | ⟨g, cap, cur, rfl, _⟩
  · exact ⟨none, 0, rfl⟩
  · exact ⟨_, cap, rfl⟩
theorem own_set {W : World} {B : Nat} {t : TypeId} {z : Nat} {v : Value} {n : Nat} {xs : List Value} (h : W.ownsRow B t z v n xs) (g o : Nat) (x : Value) (hg : g < B) : (W.setCell ⟨g, o, none⟩ x).ownsRow B t z v n xs := by
  refine ⟨h.1, ?_⟩
  rcases h.2 with h | ⟨q, cap, cur, e, hq, hh, r⟩
  · exact .inl h
  · exact .inr ⟨q, cap, cur, e, hq, (Below.heap_setCell W ⟨g, o, none⟩ x q (by simp; omega)).trans hh, r⟩
theorem own_keep {W W' : World} {B : Nat} {t : TypeId} {z : Nat} {v : Value} {n : Nat} {xs : List Value} {r : Option Nat} (h : W.ownsRow B t z v n xs) (hg : W.grownBy W' r) (hr : ∀ q, v.ownBlock = some q → r ≠ some q) : W'.ownsRow B t z v n xs := by
  refine ⟨h.1, ?_⟩
  rcases h.2 with h | ⟨q, cap, cur, e, hq, hh, k⟩
  · exact .inl h
  · refine .inr ⟨q, cap, cur, e, hq, (hg.block q (blk_lt hh) (fun e2 => hr q (by rw [e]; rfl) e2.symm)).trans hh, k⟩
/-- a slab handed back, with rows of its own -/
def SlabAns (s : Slb) (w : World) (e : Ending) (w' : World) : Prop := ∃ aS cS aH cH, e = .returned (.agg #[.slice aS s.slots.length cS, .slice aH s.heads.length cH]) ∧ SlabO w.heap.size w'.heap.size aS aH s w' ∧ Below w.heap.size w w'
end Go.Proofs.Ytfjgofmjhccdkaa
end

section
namespace Go.Proofs.Ytfjgofmjhccdkaa
open Go.ChangeShapes Go.WideShapes Go.ChangeAt Go.RowKit
set_option linter.unusedVariables false
set_option linter.unusedSimpArgs false
set_option maxRecDepth 100000

/-- the slab with other holders of a slot -/
def refS (s : Slb) (n r : Int) : Slb := ⟨s.slots.set n.toNat { slotN s n with refs := r }, s.heads⟩
theorem flat_refs : ∀ (ss : List Slt) (i : Nat) (r : Int), i < ss.length → (flat ss).set (4 * i + 2) r = flat (ss.set i { ss.getD i zeroSlt with refs := r })
  | [], i, r, h => by simp at h
  | x :: ss, 0, r, h => by simp [flat]
  | x :: ss, i + 1, r, h => by
    have := flat_refs ss i r (by simpa using h)
    simp only [flat, show 4 * (i + 1) + 2 = 4 * i + 2 + 4 by omega, List.set_cons_succ, List.getD_cons_succ]
    rw [this]
theorem RowB.other {b o g k : Nat} {zs : List Int} {W : World} {v : Value} (h : RowB b o zs W) (hne : b ≠ g) : RowB b o zs (W.setCell ⟨g, k, none⟩ v) := h.keep (Below.heap_setCell W ⟨g, k, none⟩ v b hne)
theorem refs_nat {s : Slb} (h : rightSl s = true) {i : Nat} (hi : i < s.slots.length) : 0 ≤ (s.slots.getD i zeroSlt).refs ∧ (s.slots.getD i zeroSlt).refs ≤ 1000000 := by
  unfold rightSl slotsB at h
  simp only [Bool.and_eq_true, List.all_eq_true] at h
  have := h.1.2.1 (s.slots.getD i zeroSlt) (by rw [List.getD_eq_getElem?_getD, List.getElem?_eq_getElem hi]; exact List.getElem_mem _)
  unfold okS timeB at this
  simp only [Bool.and_eq_true, decide_eq_true_eq] at this
  exact this.1.2
end Go.Proofs.Ytfjgofmjhccdkaa
end

section
namespace Go.Proofs.Ytfjgofmjhccdkaa
open Go.ChangeShapes Go.WideShapes Go.ChangeAt Go.RowKit
set_option linter.unusedVariables false
set_option linter.unusedSimpArgs false
set_option maxRecDepth 100000

/-- an answer that hands a slab back, with a place and a code -/
def OutAns (s : Slb) (at_ code : Int) (w : World) (e : Ending) (w' : World) : Prop :=
  ∃ aS cS aH cH, e = .returned (.agg #[.slice aS s.slots.length cS, .slice aH s.heads.length cH, .int .i64 at_, .int .i64 code]) ∧ SlabO w.heap.size w'.heap.size aS aH s w' ∧ Below w.heap.size w w'
theorem ill_out {c : Int} {w w' : World} {e : Ending} (h : e = .returned (.agg #[.slice none 0 0, .slice none 0 0, .int .i64 0, .int .i64 c]) ∧ Below w.heap.size w w') : OutAns ⟨[], []⟩ 0 c w e w' :=
  ⟨none, 0, none, 0, h.1, ⟨.inl rfl, .inl rfl, fun _ _ _ _ e => by cases e⟩, h.2⟩
/-- a right slab and one of its slots -/
def atB (s : Slb) (n : Int) : Bool := rightSl s && (decide (0 ≤ n) && decide (n ≤ (s.slots.length : Int) - 1))
/-- what l06Begin answers -/
def beginAns (s : Slb) (n : Int) : Int := if atB s n = true then (if (slotN s n).refs = 0 then 6 else 0) else 1
theorem begin_at {s : Slb} {n : Int} (h : beginAns s n = 0) : rightSl s = true ∧ 0 ≤ n ∧ n < s.slots.length := by
  unfold beginAns at h
  cases hb : atB s n
  · rw [hb] at h; simp at h
  · unfold atB at hb; simp at hb; exact ⟨hb.1, hb.2.1, by omega⟩
/-- the code of SlabGet -/
def getC (s : Slb) (n : Int) : Int := if beginAns s n = 0 then (if 1000000 ≤ (slotN s n).refs then 9 else 0) else beginAns s n
/-- what SlabGet answers -/
def getS (s : Slb) (n : Int) : Slb := if getC s n = 0 then refS s n ((slotN s n).refs + 1) else ⟨[], []⟩
def getA (s : Slb) (n : Int) : Int := if getC s n = 0 then n else 0
/-- is the slot linked? -/
def linkedB (s : Slb) (n : Int) : Bool := findSl s (slotN s n).key == n
theorem key_nat {s : Slb} (h : rightSl s = true) {i : Nat} (hi : i < s.slots.length) : 0 ≤ (s.slots.getD i zeroSlt).key := by
  unfold rightSl slotsB at h
  simp only [Bool.and_eq_true, List.all_eq_true] at h
  have := h.1.2.1 (s.slots.getD i zeroSlt) (by rw [List.getD_eq_getElem?_getD, List.getElem?_eq_getElem hi]; exact List.getElem_mem _)
  unfold okS keyB at this
  simp only [Bool.and_eq_true, decide_eq_true_eq] at this
  exact this.1.1.1.1
/-- the code of SlabPut -/
def putC (s : Slb) (n : Int) : Int := if beginAns s n = 0 then (if (slotN s n).refs = 1 ∧ linkedB s n = true then 10 else 0) else beginAns s n
/-- what SlabPut answers -/
def putS (s : Slb) (n : Int) : Slb := if putC s n = 0 then refS s n ((slotN s n).refs - 1) else ⟨[], []⟩
def putA (s : Slb) (n : Int) : Int := if putC s n = 0 then n else 0
end Go.Proofs.Ytfjgofmjhccdkaa
end
