/- Proved here: nothing of a program: what lasts while a slab is drawn, from round to round and within one. -/
import Derived.Test.YtcopfejonbbmnaaAll34
namespace Go.Proofs.Ytcopfejonbbmnaa
open Go.ChangeShapes Go.WideShapes Go.ChangeAt Go.RowKit
set_option linter.unusedVariables false
set_option linter.unusedSimpArgs false
set_option maxRecDepth 100000

/-- what a drawn slab keeps -/
structure DrSl (t : Slb) : Prop where
  n1 : 1 ≤ t.slots.length
  n2 : t.slots.length ≤ 24
  n3 : 1 ≤ t.heads.length
  n4 : t.heads.length ≤ 4
  fit : SlabFit t
def DrawnSl (B : Nat) (a : Option Addr) (len cap : Nat) (w : World) (e : Ending) (w' : World) : Prop :=
  ∃ (t : Slb) (b2 o2 cS b3 o3 cH : Nat), e = .returned (.agg #[.slice (some ⟨b2, o2, none⟩) t.slots.length cS, .slice (some ⟨b3, o3, none⟩) t.heads.length cH]) ∧ DrSl t ∧ b2 ≠ b3 ∧ w.heap.size ≤ b2 ∧ w.heap.size ≤ b3 ∧ RowB b2 o2 (flat t.slots) w' ∧ RowB b3 o3 t.heads w' ∧ Src B a len cap w' ∧ w.grownBy w' (some B)
/-- what lasts from round to round -/
structure RdSt (B : Nat) (a : Option Addr) (len cap : Nat) (w : World) (X b2 o2 cS b3 o3 cH : Nat) (t : Slb) (W : World) : Prop where
  rt : rightSl t = true
  x : XSt X (w.heap.size + 1) b2 o2 cS b3 o3 cH t W
  r : W.heap[w.heap.size]? = some (.cells #[.slice none 0 0, .slice none 0 0] 26)
  src : Src B a len cap W
  gr : w.grownBy W (some B)
  bx : B < w.heap.size ∧ w.heap.size < X
def LpD (B : Nat) (a : Option Addr) (len cap : Nat) (w : World) (X : Nat) (kk : Value) (W : World) : Prop :=
  ∃ (k : Nat) (b2 o2 cS b3 o3 cH : Nat) (t : Slb), kk = .int .i64 (k : Int) ∧ k ≤ 12 ∧ RdSt B a len cap w X b2 o2 cS b3 o3 cH t W
theorem RdSt.grown {B : Nat} {a : Option Addr} {len cap : Nat} {w : World} {X b2 o2 cS b3 o3 cH : Nat} {t : Slb} {W W' : World} (h : RdSt B a len cap w X b2 o2 cS b3 o3 cH t W) (hS : Src B a len cap W') (hg : W.grownBy W' (some B)) : RdSt B a len cap w X b2 o2 cS b3 o3 cH t W' := by
  have := h.bx
  refine ⟨h.rt, h.x.grown hg (by omega) (by omega), (hg.block _ (blk_lt h.r) (fun e => by injection e with e; omega)).trans h.r, hS, grown_then h.gr hg, h.bx⟩
/-- within a round: an answer stands in a block beside -/
structure MdSt (B : Nat) (a : Option Addr) (len cap : Nat) (w : World) (X b2 o2 cS b3 o3 cH : Nat) (t : Slb) (Y : Nat) (W : World) : Prop where
  rd : RdSt B a len cap w X b2 o2 cS b3 o3 cH t W
  xy : X < Y
  y2 : b2 ≠ Y
  y3 : b3 ≠ Y
  y : ∃ cs lo hi, W.heap[Y]? = some (.cells cs 30) ∧ OutV lo hi (.agg cs) W ∧ (Y < lo ∨ hi ≤ Y) ∧ X < lo
theorem MdSt.grown {B : Nat} {a : Option Addr} {len cap : Nat} {w : World} {X b2 o2 cS b3 o3 cH : Nat} {t : Slb} {Y : Nat} {W W' : World} (h : MdSt B a len cap w X b2 o2 cS b3 o3 cH t Y W) (hS : Src B a len cap W') (hg : W.grownBy W' (some B)) : MdSt B a len cap w X b2 o2 cS b3 o3 cH t Y W' := by
  have hb := h.rd.bx
  have hxy := h.xy
  obtain ⟨cs, lo, hi, q1, q2, q3, q4⟩ := h.y
  exact ⟨h.rd.grown hS hg, h.xy, h.y2, h.y3, cs, lo, hi, (hg.block _ (blk_lt q1) (fun e => by injection e with e; omega)).trans q1, q2.ex (B := B) (Y := B) (Ex2.of_grown hg) (.inl (by omega)) (.inl (by omega)), q3, q4⟩
theorem MdSt.below {B : Nat} {a : Option Addr} {len cap : Nat} {w : World} {X b2 o2 cS b3 o3 cH : Nat} {t : Slb} {Y : Nat} {W W' : World} (h : MdSt B a len cap w X b2 o2 cS b3 o3 cH t Y W) (hb : Below W.heap.size W W') : MdSt B a len cap w X b2 o2 cS b3 o3 cH t Y W' := h.grown (src_keep h.rd.src hb) (grown_below hb)
/-- an answer as a value, made within the round -/
def OutK (B X Y : Nat) : Kp := fun v W => ∃ lo hi, OutV lo hi v W ∧ X < lo ∧ Y < lo ∧ B < lo
theorem OutK.ex {B X Y : Nat} {v : Value} {W W' : World} (h : OutK B X Y v W) (hr : Ex2 B Y W W') : OutK B X Y v W' := by
  obtain ⟨lo, hi, h1, h2, h3, h4⟩ := h
  exact ⟨lo, hi, h1.ex hr (.inl h4) (.inl h3), h2, h3, h4⟩
theorem MdSt.store {B : Nat} {a : Option Addr} {len cap : Nat} {w : World} {X b2 o2 cS b3 o3 cH : Nat} {t : Slb} {Y : Nat} {W : World} (h : MdSt B a len cap w X b2 o2 cS b3 o3 cH t Y W) {u : Slb} {ua uc : Int} {aS aH : Option Addr} {kS kH lo hi : Nat} (hV : OutV lo hi (.agg #[.slice aS u.slots.length kS, .slice aH u.heads.length kH, .int .i64 ua, .int .i64 uc]) W) (h1 : X < lo) (h2 : Y < lo) (h3 : B < lo) :
    (Instr.storeAt 30 (.pointer (some ⟨Y, 0, none⟩)) (.agg #[.slice aS u.slots.length kS, .slice aH u.heads.length kH, .int .i64 ua, .int .i64 uc])).run Try.prog W = .ok () ((((W.setCell ⟨Y, 0, none⟩ (.slice aS u.slots.length kS)).setCell ⟨Y, 1, none⟩ (.slice aH u.heads.length kH)).setCell ⟨Y, 2, none⟩ (.int .i64 ua)).setCell ⟨Y, 3, none⟩ (.int .i64 uc)) ∧ MdSt B a len cap w X b2 o2 cS b3 o3 cH t Y ((((W.setCell ⟨Y, 0, none⟩ (.slice aS u.slots.length kS)).setCell ⟨Y, 1, none⟩ (.slice aH u.heads.length kH)).setCell ⟨Y, 2, none⟩ (.int .i64 ua)).setCell ⟨Y, 3, none⟩ (.int .i64 uc)) ∧ Ex2 B Y W ((((W.setCell ⟨Y, 0, none⟩ (.slice aS u.slots.length kS)).setCell ⟨Y, 1, none⟩ (.slice aH u.heads.length kH)).setCell ⟨Y, 2, none⟩ (.int .i64 ua)).setCell ⟨Y, 3, none⟩ (.int .i64 uc)) := by
  obtain ⟨cs, lo', hi', q1, q2, q3, q4⟩ := h.y
  obtain ⟨u', a', c', aS', aH', cS', cH', e, _, _, _⟩ := agg_four q2
  subst e
  have hth : W.there Y 0 4 := fun j hj => ⟨by simp [World.cell?, q1]; omega, by simp [World.frozen?, q1]⟩
  have hrun := run_storeAt_mid (P := Try.prog) W Y 0 30 #[.slice aS u.slots.length kS, .slice aH u.heads.length kH, .int .i64 ua, .int .i64 uc] hth (by kernel_rfl) (by simp [Value.oneCell'])
  have hset : W.setCells Y 0 (#[.slice aS u.slots.length kS, .slice aH u.heads.length kH, .int .i64 ua, .int .i64 uc] : Array Value).toList = ((((W.setCell ⟨Y, 0, none⟩ (.slice aS u.slots.length kS)).setCell ⟨Y, 1, none⟩ (.slice aH u.heads.length kH)).setCell ⟨Y, 2, none⟩ (.int .i64 ua)).setCell ⟨Y, 3, none⟩ (.int .i64 uc)) := rfl
  rw [hset] at hrun
  have hst : ((((W.setCell ⟨Y, 0, none⟩ (.slice aS u.slots.length kS)).setCell ⟨Y, 1, none⟩ (.slice aH u.heads.length kH)).setCell ⟨Y, 2, none⟩ (.int .i64 ua)).setCell ⟨Y, 3, none⟩ (.int .i64 uc)).heap[Y]? = some (.cells #[.slice aS u.slots.length kS, .slice aH u.heads.length kH, .int .i64 ua, .int .i64 uc] 30) := by
    have := blk_set (blk_set (blk_set (blk_set q1 0 (.slice aS u.slots.length kS)) 1 (.slice aH u.heads.length kH)) 2 (.int .i64 ua)) 3 (.int .i64 uc)
    simpa using this
  have hex : Ex2 B Y W ((((W.setCell ⟨Y, 0, none⟩ (.slice aS u.slots.length kS)).setCell ⟨Y, 1, none⟩ (.slice aH u.heads.length kH)).setCell ⟨Y, 2, none⟩ (.int .i64 ua)).setCell ⟨Y, 3, none⟩ (.int .i64 uc)) := ((((Ex2.refl B Y W).cells 0 (.slice aS u.slots.length kS)).cells 1 (.slice aH u.heads.length kH)).cells 2 (.int .i64 ua)).cells 3 (.int .i64 uc)
  have h0 : ∀ j, j ≠ Y → ((((W.setCell ⟨Y, 0, none⟩ (.slice aS u.slots.length kS)).setCell ⟨Y, 1, none⟩ (.slice aH u.heads.length kH)).setCell ⟨Y, 2, none⟩ (.int .i64 ua)).setCell ⟨Y, 3, none⟩ (.int .i64 uc)).heap[j]? = W.heap[j]? := fun j hj => (Below.heap_setCell _ ⟨Y, 3, none⟩ _ j hj).trans ((Below.heap_setCell _ ⟨Y, 2, none⟩ _ j hj).trans ((Below.heap_setCell _ ⟨Y, 1, none⟩ _ j hj).trans (Below.heap_setCell _ ⟨Y, 0, none⟩ _ j hj)))
  have hb := h.rd.bx
  have hxy := h.xy
  refine ⟨hrun, ⟨⟨h.rd.rt, h.rd.x.keep (fun k hk hc => h0 k (by have := h.y2; have := h.y3; omega)), (h0 _ (by omega)).trans h.rd.r, h.rd.src.kept (fun k hk => h0 k (by omega)), grown_ex h.rd.gr hex (by omega), h.rd.bx⟩, h.xy, h.y2, h.y3, _, lo, hi, hst, hV.ex hex (.inl h3) (.inl h2), .inl h2, h1⟩, hex⟩
/-- the answer's slab, where there is no code, as two rows -/
theorem out_rows {lo hi : Nat} {u : Slb} {aS aH : Option Addr} {W : World} (h : SlabO lo hi aS aH u W) (n1 : 1 ≤ u.slots.length) (n3 : 1 ≤ u.heads.length) : ∃ b2 o2 b3 o3, aS = some ⟨b2, o2, none⟩ ∧ aH = some ⟨b3, o3, none⟩ ∧ lo ≤ b2 ∧ lo ≤ b3 ∧ b2 ≠ b3 ∧ RowB b2 o2 (flat u.slots) W ∧ RowB b3 o3 u.heads W := by
  obtain ⟨b2, o2, rfl, p1, p2, p3⟩ : ∃ b o, aS = some ⟨b, o, none⟩ ∧ lo ≤ b ∧ b < hi ∧ RowB b o (flat u.slots) W := by
    rcases h.slots with e | h
    · have := flat_len u.slots; rw [e] at this; simp at this; omega
    · exact h
  obtain ⟨b3, o3, rfl, q1, q2, q3⟩ : ∃ b o, aH = some ⟨b, o, none⟩ ∧ lo ≤ b ∧ b < hi ∧ RowB b o u.heads W := by
    rcases h.heads with e | h
    · rw [e] at n3; simp at n3
    · exact h
  exact ⟨b2, o2, b3, o3, rfl, rfl, p1, q1, h.two _ _ _ _ rfl rfl (fun e => by rw [e] at n1; simp at n1) (fun e => by rw [e] at n3; simp at n3), p3, q3⟩
/-- the round's end: the answer's slab is the one now -/
theorem MdSt.turn {B : Nat} {a : Option Addr} {len cap : Nat} {w : World} {X b2 o2 cS b3 o3 cH : Nat} {t : Slb} {Y : Nat} {W : World} (h : MdSt B a len cap w X b2 o2 cS b3 o3 cH t Y W) {u : Slb} {c2 p2 c3 p3 kS kH lo : Nat} (hr : rightSl u = true) (h2 : lo ≤ c2) (h3 : lo ≤ c3) (hne : c2 ≠ c3) (hX : X < lo) (P : RowB c2 p2 (flat u.slots) W) (Q : RowB c3 p3 u.heads W) :
    RdSt B a len cap w X c2 p2 kS c3 p3 kH u ((W.setCell ⟨X, 0, none⟩ (.slice (some ⟨c2, p2, none⟩) u.slots.length kS)).setCell ⟨X, 1, none⟩ (.slice (some ⟨c3, p3, none⟩) u.heads.length kH)) := by
  have hb := h.rd.bx
  have h0 : ∀ j, j ≠ X → ((W.setCell ⟨X, 0, none⟩ (.slice (some ⟨c2, p2, none⟩) u.slots.length kS)).setCell ⟨X, 1, none⟩ (.slice (some ⟨c3, p3, none⟩) u.heads.length kH)).heap[j]? = W.heap[j]? := fun j hj => (Below.heap_setCell _ ⟨X, 1, none⟩ _ j hj).trans (Below.heap_setCell _ ⟨X, 0, none⟩ _ j hj)
  have hst := blk_set (blk_set h.rd.x.blk 0 (.slice (some ⟨c2, p2, none⟩) u.slots.length kS)) 1 (.slice (some ⟨c3, p3, none⟩) u.heads.length kH)
  have hex : Ex2 B X W ((W.setCell ⟨X, 0, none⟩ (.slice (some ⟨c2, p2, none⟩) u.slots.length kS)).setCell ⟨X, 1, none⟩ (.slice (some ⟨c3, p3, none⟩) u.heads.length kH)) := ((Ex2.refl B X W).cells 0 _).cells 1 _
  exact ⟨hr, ⟨by simpa using hst, hne, by omega, by omega, by omega, by omega, P.keep (h0 _ (by omega)), Q.keep (h0 _ (by omega))⟩, (h0 _ (by omega)).trans h.rd.r, h.rd.src.kept (fun k hk => h0 k (by omega)), grown_ex h.rd.gr hex (by omega), h.rd.bx⟩
end Go.Proofs.Ytcopfejonbbmnaa
