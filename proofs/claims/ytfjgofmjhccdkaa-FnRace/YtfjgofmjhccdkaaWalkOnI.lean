/- Proved here: impl.walkOn goes so many steps at most, as the plain function, in memory of its own; all old memory stays (conditions: a right slab, whose rows can be read, and a right walker; at most 100 steps). -/
import Derived.Test.YtfjgofmjhccdkaaWalkRI
import Derived.Test.YtfjgofmjhccdkaaAll31
import Derived.Test.YtfjgofmjhccdkaaAll13
import Derived.Test.YtfjgofmjhccdkaaAll33
import Derived.Test.YtfjgofmjhccdkaaSlabPutI
import Derived.Test.YtfjgofmjhccdkaaAll28
import Derived.Test.YtfjgofmjhccdkaaAll2
import Derived.Test.YtfjgofmjhccdkaaJumps
import Derived.BigRegion
import Derived.Handy
namespace Go.Proofs.Ytfjgofmjhccdkaa
open Go.ChangeShapes Go.WideShapes Go.ChangeAt Go.RowKit
set_option linter.unusedVariables false
set_option linter.unusedSimpArgs false
set_option maxRecDepth 100000

/-- how memory lies at each label -/
structure WonM (w W : World) (go b2 o2 u2 b3 o3 u3 : Nat) (c : Int) (s' : Slb) (cells : Array Value) : Prop where
  S : W.heap[w.heap.size]? = some (.cells #[.slice (some ⟨b2, o2, none⟩) s'.slots.length u2, .slice (some ⟨b3, o3, none⟩) s'.heads.length u3] 26)
  K : W.heap[w.heap.size + 1]? = some (.cells cells 30)
  R : W.heap[w.heap.size + 1 + 1]? = some (.cells #[.slice none 0 0, .slice none 0 0, .int .i64 0, .int .i64 0, .int .i64 0, .int .i64 0, .int .i64 0, .int .i64 0, .int .i64 0, .int .i64 0] 32)
  O : W.heap[go]? = some (.cells #[.int .i64 c] 2)
  P : RowB b2 o2 (flat s'.slots) W
  Q : RowB b3 o3 s'.heads W
  lb : w.heap.size + 3 ≤ b2 ∧ w.heap.size + 3 ≤ b3 ∧ b2 ≠ b3 ∧ w.heap.size + 3 ≤ go
  L : Below w.heap.size w W
/-- what is known at the first label, and behind the choice of a stage -/
def WonF (F : Slb × Wlk) (s : Slb) (n : Nat) (s' : Slb) (k' : Wlk) : Prop := rightSl s' = true ∧ wkR s' k' = true ∧ runP n s' k' = F ∧ s'.heads = s.heads
def WonG (F : Slb × Wlk) (s : Slb) (n : Nat) (s' : Slb) (k' : Wlk) : Prop := rightSl s' = true ∧ wkR s' k' = true ∧ goB k' = true ∧ runP n (stepP s' k').1 (stepP s' k').2 = F ∧ s'.heads = s.heads
/-- the frame at a label: what is known of it, and the rest -/
def wonFr (w : World) (s : Slb) (key cur stage state slot gen steps : Int) (bS oS bH oH cS cH : Nat) (nn : Int) (go : Nat) (f : Nat → Value) : Act := { tmps := #[.agg #[.slice (some ⟨bS, oS, none⟩) s.slots.length cS, .slice (some ⟨bH, oH, none⟩) s.heads.length cH], .agg #[.int .i64 key, .int .i64 cur, .int .i64 stage, .int .i64 state, .int .i64 slot, .int .i64 gen, .int .i64 steps], .int .i64 nn, .pointer (some ⟨w.heap.size, 0, none⟩), .pointer (some ⟨w.heap.size + 1, 0, none⟩), f 5, .pointer (some ⟨w.heap.size + 1 + 1, 0, none⟩), .pointer (some ⟨go, 0, none⟩), .int .i64 key, .func (.func 108) #[] #[.pointer (some ⟨w.heap.size, 0, none⟩), .pointer (some ⟨go, 0, none⟩), .pointer (some ⟨w.heap.size + 1, 0, none⟩)], f 10, f 11, f 12, f 13, f 14, f 15, f 16, f 17, f 18, f 19, f 20, f 21, f 22, f 23, f 24, f 25, f 26, f 27, f 28, f 29, f 30, f 31, f 32, f 33, f 34, f 35, f 36, f 37, f 38, f 39, f 40, f 41, f 42, f 43, f 44, f 45, f 46, f 47, f 48, f 49, f 50, f 51, f 52, f 53, f 54, f 55, f 56, f 57, f 58, f 59, f 60, f 61, f 62, f 63, f 64, f 65, f 66, f 67, f 68, f 69, f 70, f 71, f 72, f 73, f 74, f 75, f 76, f 77, f 78, f 79, f 80, f 81, f 82, f 83, f 84, f 85, f 86, f 87, f 88, f 89, f 90, f 91, f 92, f 93, f 94, f 95, f 96, f 97, f 98, f 99, f 100, f 101, f 102, f 103, f 104, f 105, f 106, f 107, f 108, f 109, f 110, f 111, f 112, f 113], defers := [] }
def wonJ (w : World) (F : Slb × Wlk) (s : Slb) (key cur stage state slot gen steps c : Int) (bS oS bH oH cS cH : Nat) : Nat → Act → World → Prop
  | 0, a', w' => ∃ (n : Nat) (nn : Int) (s' : Slb) (go b2 o2 u2 b3 o3 u3 : Nat) (cur' stage' state' slot' gen' steps' : Int), a' = wonFr w s key cur stage state slot gen steps bS oS bH oH cS cH nn go (fun i => a'.tmps.getD i undef) ∧ nn = (n : Int) ∧ n ≤ 100 ∧ WonM w w' go b2 o2 u2 b3 o3 u3 c s' #[.int .i64 key, .int .i64 cur', .int .i64 stage', .int .i64 state', .int .i64 slot', .int .i64 gen', .int .i64 steps'] ∧ Hid (WonF F s n s' ⟨key, cur', stage', state', slot', gen', steps'⟩)
  | 1, a', w' => ∃ (n : Nat) (nn : Int) (s' : Slb) (go b2 o2 u2 b3 o3 u3 : Nat) (cur' steps' : Int), a' = wonFr w s key cur stage state slot gen steps bS oS bH oH cS cH nn go (fun i => a'.tmps.getD i undef) ∧ nn = (n : Int) ∧ n ≤ 100 ∧ WonM w w' go b2 o2 u2 b3 o3 u3 c s' #[.int .i64 key, .int .i64 cur', .int .i64 0, .int .i64 0, .int .i64 0, .int .i64 0, .int .i64 (steps' + 1)] ∧ Hid (WonG F s n s' ⟨key, cur', 0, 0, 0, 0, steps'⟩)
  | 2, a', w' => ∃ (n : Nat) (nn : Int) (s' : Slb) (go b2 o2 u2 b3 o3 u3 : Nat) (cur' steps' : Int), a' = wonFr w s key cur stage state slot gen steps bS oS bH oH cS cH nn go (fun i => a'.tmps.getD i undef) ∧ nn = (n : Int) ∧ n ≤ 100 ∧ WonM w w' go b2 o2 u2 b3 o3 u3 c s' #[.int .i64 key, .int .i64 cur', .int .i64 1, .int .i64 0, .int .i64 0, .int .i64 0, .int .i64 (steps' + 1)] ∧ Hid (WonG F s n s' ⟨key, cur', 1, 0, 0, 0, steps'⟩)
  | 3, a', w' => ∃ (n : Nat) (nn : Int) (s' : Slb) (go b2 o2 u2 b3 o3 u3 : Nat) (cur' steps' : Int), a' = wonFr w s key cur stage state slot gen steps bS oS bH oH cS cH nn go (fun i => a'.tmps.getD i undef) ∧ nn = (n : Int) ∧ n ≤ 100 ∧ WonM w w' go b2 o2 u2 b3 o3 u3 c s' #[.int .i64 key, .int .i64 cur', .int .i64 2, .int .i64 0, .int .i64 0, .int .i64 0, .int .i64 (steps' + 1)] ∧ Hid (WonG F s n s' ⟨key, cur', 2, 0, 0, 0, steps'⟩)
  | _, _, _ => False
/-- jumps come to an end -/
def wonM : Nat → Act → World → Nat
  | 0, a', _ => 2 * (intOf (a'.tmps.getD 2 undef)).toNat
  | _, a', _ => 2 * (intOf (a'.tmps.getD 2 undef)).toNat + 1
theorem won_step {F : Slb × Wlk} {s s' s2 : Slb} {k' k2 : Wlk} {n : Nat} (h : WonG F s n s' k') (e : stepP s' k' = (s2, k2)) : WonF F s n s2 k2 := by
  obtain ⟨h1, h2, h3, h4, h5⟩ := h
  obtain ⟨q1, q2⟩ := step_right h1 h2 h3
  obtain ⟨_, _, q3, _⟩ := step_key s' k'
  rw [e] at q1 q2 q3 h4
  exact ⟨q1, q2, h4, q3.trans h5⟩
theorem field_out (aS aH : Option Addr) (n a m b : Nat) (x y : Int) (W : World) : (Instr.field 47 (.agg #[.slice aS n a, .slice aH m b, .int .i64 x, .int .i64 y]) 0).run Try.prog W = .ok (.agg #[.slice aS n a, .slice aH m b]) W := by
  first
  | rfl
  | kernel_rfl
  | (simp [Instr.field, go_sem])
set_option maxHeartbeats 4000000 in
theorem beginAnew_any (bs bo bk : Nat) (aS aH : Option Addr) (uS uH : Nat) (s' : Slb) (key cur st state slot gen steps : Int) (w : World) (hS : w.heap[bs]? = some (.cells #[.slice aS s'.slots.length uS, .slice aH s'.heads.length uH] 26)) (hO : w.heap[bo]? = some (.cells #[.int .i64 (chN s' key : Int)] 2)) (hK : w.heap[bk]? = some (.cells #[.int .i64 key, .int .i64 cur, .int .i64 st, .int .i64 state, .int .i64 slot, .int .i64 gen, .int .i64 steps] 30)) (hR : RowZ aH s'.heads w) (hc : chN s' key < s'.heads.length) (n1 : bk ≠ bs) (n2 : bk ≠ bo) :
    Calls Try.prog 108 #[.pointer (some ⟨bs, 0, none⟩), .pointer (some ⟨bo, 0, none⟩), .pointer (some ⟨bk, 0, none⟩)] w fun e w' => e = .returned (.tuple #[]) ∧ w' = (w.setCell ⟨bk, 1, none⟩ (.int .i64 (hdK s' key))).setCell ⟨bk, 2, none⟩ (.int .i64 0) := by
  unfold hdK
  generalize chN s' key = c at hO hc ⊢
  obtain ⟨bH, oH, rfl, hlt, hcell⟩ := hR c hc
  generalize s'.heads.getD c 0 = z at hcell ⊢
  have hcc : (0 : Int) ≤ (c : Int) ∧ (c : Int) < (s'.heads.length : Int) := by omega
  have s0 := blk_cell hS 0
  have s1 := blk_cell hS 1
  have o0 := blk_cell hO 0
  simp at s0 s1 o0
  have k1 := blk_cell hK
  have f1 := blk_free hK
  clear hS hO hR hc hlt
  go_enter Try.func108, Try.ntmps108
  go_wp2_with fail
  go_returns
  exact ⟨rfl, rfl⟩
set_option maxHeartbeats 8000000 in
theorem walkOn_in (bS oS bH oH cS cH : Nat) (s : Slb) (key cur stage state slot gen steps : Int) (n : Nat) (w : World) (hR : SlabZ (some ⟨bS, oS, none⟩) (some ⟨bH, oH, none⟩) s w) (hr : rightSl s = true) (hw : wkR s ⟨key, cur, stage, state, slot, gen, steps⟩ = true) (hn : n ≤ 100) :
    Calls Try.prog 51 #[.agg #[.slice (some ⟨bS, oS, none⟩) s.slots.length cS, .slice (some ⟨bH, oH, none⟩) s.heads.length cH], .agg #[.int .i64 key, .int .i64 cur, .int .i64 stage, .int .i64 state, .int .i64 slot, .int .i64 gen, .int .i64 steps], .int .i64 (n : Int)] w fun e w' => WkAns (runP n s ⟨key, cur, stage, state, slot, gen, steps⟩).1 (runP n s ⟨key, cur, stage, state, slot, gen, steps⟩).2 0 w e w' := by
  obtain ⟨hkey, _⟩ := wk_parts.1 hw
  obtain ⟨_, n1, n2, n3, n4⟩ := right_leads hr
  have HCP := hidS (fun W (h : Below w.heap.size w W) => copySlab_any bS oS bH oH cS cH s W (hR.later h) n1 n2 n3 n4)
  have HCF := hidS (fun (aS aH : Option Addr) (a b : Nat) W => chainFor_any aS aH s.slots.length a s.heads.length b key W hkey.1 hkey.2 (by omega) n3)
  obtain ⟨hcl, hmod⟩ := chN_lt (s := s) hkey.1 n3
  rw [← hmod] at HCF
  obtain ⟨c, hcE⟩ : ∃ c : Int, (chN s key : Int) = c := ⟨_, rfl⟩
  have HCE := hidS hcE
  rw [hcE] at HCF
  have FF0 : Hid (WonF (runP n s ⟨key, cur, stage, state, slot, gen, steps⟩) s n s ⟨key, cur, stage, state, slot, gen, steps⟩) := hidS ⟨hr, hw, rfl, rfl⟩
  generalize runP n s ⟨key, cur, stage, state, slot, gen, steps⟩ = F at FF0 ⊢
  have N1 := hidS n1
  have N3 := hidS n3
  clear hR hmod hcE
  have S0 : Hid ((((w.alloc (.cells #[.slice (some ⟨bS, oS, none⟩) s.slots.length cS, .slice (some ⟨bH, oH, none⟩) s.heads.length cH] 26)).alloc (.cells #[.int .i64 key, .int .i64 cur, .int .i64 stage, .int .i64 state, .int .i64 slot, .int .i64 gen, .int .i64 steps] 30)).alloc (.cells #[.slice none 0 0, .slice none 0 0, .int .i64 0, .int .i64 0, .int .i64 0, .int .i64 0, .int .i64 0, .int .i64 0, .int .i64 0, .int .i64 0] 32)).heap[w.heap.size]? = some (.cells #[.slice (some ⟨bS, oS, none⟩) s.slots.length cS, .slice (some ⟨bH, oH, none⟩) s.heads.length cH] 26)) := by
    show _ = _
    have := blk_alloc (blk_alloc (heap_newG w (.cells #[.slice (some ⟨bS, oS, none⟩) s.slots.length cS, .slice (some ⟨bH, oH, none⟩) s.heads.length cH] 26)) (.cells #[.int .i64 key, .int .i64 cur, .int .i64 stage, .int .i64 state, .int .i64 slot, .int .i64 gen, .int .i64 steps] 30)) (.cells #[.slice none 0 0, .slice none 0 0, .int .i64 0, .int .i64 0, .int .i64 0, .int .i64 0, .int .i64 0, .int .i64 0, .int .i64 0, .int .i64 0] 32)
    simpa using this
  have K0 : Hid ((((w.alloc (.cells #[.slice (some ⟨bS, oS, none⟩) s.slots.length cS, .slice (some ⟨bH, oH, none⟩) s.heads.length cH] 26)).alloc (.cells #[.int .i64 key, .int .i64 cur, .int .i64 stage, .int .i64 state, .int .i64 slot, .int .i64 gen, .int .i64 steps] 30)).alloc (.cells #[.slice none 0 0, .slice none 0 0, .int .i64 0, .int .i64 0, .int .i64 0, .int .i64 0, .int .i64 0, .int .i64 0, .int .i64 0, .int .i64 0] 32)).heap[w.heap.size + 1]? = some (.cells #[.int .i64 key, .int .i64 cur, .int .i64 stage, .int .i64 state, .int .i64 slot, .int .i64 gen, .int .i64 steps] 30)) := by
    show _ = _
    have := blk_alloc (heap_newG (w.alloc (.cells #[.slice (some ⟨bS, oS, none⟩) s.slots.length cS, .slice (some ⟨bH, oH, none⟩) s.heads.length cH] 26)) (.cells #[.int .i64 key, .int .i64 cur, .int .i64 stage, .int .i64 state, .int .i64 slot, .int .i64 gen, .int .i64 steps] 30)) (.cells #[.slice none 0 0, .slice none 0 0, .int .i64 0, .int .i64 0, .int .i64 0, .int .i64 0, .int .i64 0, .int .i64 0, .int .i64 0, .int .i64 0] 32)
    simpa using this
  have R0 : Hid ((((w.alloc (.cells #[.slice (some ⟨bS, oS, none⟩) s.slots.length cS, .slice (some ⟨bH, oH, none⟩) s.heads.length cH] 26)).alloc (.cells #[.int .i64 key, .int .i64 cur, .int .i64 stage, .int .i64 state, .int .i64 slot, .int .i64 gen, .int .i64 steps] 30)).alloc (.cells #[.slice none 0 0, .slice none 0 0, .int .i64 0, .int .i64 0, .int .i64 0, .int .i64 0, .int .i64 0, .int .i64 0, .int .i64 0, .int .i64 0] 32)).heap[w.heap.size + 1 + 1]? = some (.cells #[.slice none 0 0, .slice none 0 0, .int .i64 0, .int .i64 0, .int .i64 0, .int .i64 0, .int .i64 0, .int .i64 0, .int .i64 0, .int .i64 0] 32)) := by
    show _ = _
    have := heap_newG ((w.alloc (.cells #[.slice (some ⟨bS, oS, none⟩) s.slots.length cS, .slice (some ⟨bH, oH, none⟩) s.heads.length cH] 26)).alloc (.cells #[.int .i64 key, .int .i64 cur, .int .i64 stage, .int .i64 state, .int .i64 slot, .int .i64 gen, .int .i64 steps] 30)) (.cells #[.slice none 0 0, .slice none 0 0, .int .i64 0, .int .i64 0, .int .i64 0, .int .i64 0, .int .i64 0, .int .i64 0, .int .i64 0, .int .i64 0] 32)
    simpa using this
  have L0 := hidS (((Below.refl w.heap.size w).alloc (Nat.le_refl _) (.cells #[.slice (some ⟨bS, oS, none⟩) s.slots.length cS, .slice (some ⟨bH, oH, none⟩) s.heads.length cH] 26)).alloc (by simp) (.cells #[.int .i64 key, .int .i64 cur, .int .i64 stage, .int .i64 state, .int .i64 slot, .int .i64 gen, .int .i64 steps] 30) |>.alloc (by simp; omega) (.cells #[.slice none 0 0, .slice none 0 0, .int .i64 0, .int .i64 0, .int .i64 0, .int .i64 0, .int .i64 0, .int .i64 0, .int .i64 0, .int .i64 0] 32))
  go_enter Try.func51, Try.ntmps51
  go_wp2_with fail
  generalize ((w.alloc (.cells #[.slice (some ⟨bS, oS, none⟩) s.slots.length cS, .slice (some ⟨bH, oH, none⟩) s.heads.length cH] 26)).alloc (.cells #[.int .i64 key, .int .i64 cur, .int .i64 stage, .int .i64 state, .int .i64 slot, .int .i64 gen, .int .i64 steps] 30)).alloc (.cells #[.slice none 0 0, .slice none 0 0, .int .i64 0, .int .i64 0, .int .i64 0, .int .i64 0, .int .i64 0, .int .i64 0, .int .i64 0, .int .i64 0] 32) = w0 at S0 K0 R0 L0 ⊢
  refine wp_scope_from (wonJ w F s key cur stage state slot gen steps c bS oS bH oH cS cH) wonM 0 rfl ?_ ?_ ?_
  · intro Hfirst
    have HF := Hfirst
    clear Hfirst
    have s0 := blk_cell S0.out 0
    have s1 := blk_cell S0.out 1
    simp at s0 s1
    go_wp2_with fail
    refine (HCP.out _ L0.out).mono ?_
    intro e w1 hans
    obtain ⟨b2, o2, u2, b3, o3, u3, rfl, q1, q2, q3, hP, hQ, hb⟩ := SlabAns.rows hans N1.out N3.out
    have lR := blk_lt R0.out
    clear hans s0 s1
    have S1 := hidS (blk_later S0.out hb)
    have K1 := hidS (blk_later K0.out hb)
    have R1 := hidS (blk_later R0.out hb)
    have L1 := hidS (L0.out.trans (hb.mono L0.out.size))
    clear L0 hb S0 K0 R0
    have P1 := hidS hP
    have Q1 := hidS hQ
    clear hP hQ
    have s0 := blk_cell S1.out 0
    have s1 := blk_cell S1.out 1
    simp at s0 s1
    have fS := blk_free S1.out
    go_upto_region 2 with fail
    clear s0 s1 fS
    have S2 : Hid ((((w1.setCell ⟨w.heap.size, 0, none⟩ (.slice (some ⟨b2, o2, none⟩) s.slots.length u2)).setCell ⟨w.heap.size, 1, none⟩ (.slice (some ⟨b3, o3, none⟩) s.heads.length u3))).heap[w.heap.size]? = some (.cells #[.slice (some ⟨b2, o2, none⟩) s.slots.length u2, .slice (some ⟨b3, o3, none⟩) s.heads.length u3] 26)) := by
      have := (blk_set (blk_set S1.out 0 (.slice (some ⟨b2, o2, none⟩) s.slots.length u2)) 1 (.slice (some ⟨b3, o3, none⟩) s.heads.length u3))
      exact this
    have K2 : Hid ((((w1.setCell ⟨w.heap.size, 0, none⟩ (.slice (some ⟨b2, o2, none⟩) s.slots.length u2)).setCell ⟨w.heap.size, 1, none⟩ (.slice (some ⟨b3, o3, none⟩) s.heads.length u3))).heap[w.heap.size + 1]? = some (.cells #[.int .i64 key, .int .i64 cur, .int .i64 stage, .int .i64 state, .int .i64 slot, .int .i64 gen, .int .i64 steps] 30)) := hidS (blk_other (B := w.heap.size) (blk_other (B := w.heap.size) K1.out (by omega) 0 (.slice (some ⟨b2, o2, none⟩) s.slots.length u2)) (by omega) 1 (.slice (some ⟨b3, o3, none⟩) s.heads.length u3))
    have R2 : Hid ((((w1.setCell ⟨w.heap.size, 0, none⟩ (.slice (some ⟨b2, o2, none⟩) s.slots.length u2)).setCell ⟨w.heap.size, 1, none⟩ (.slice (some ⟨b3, o3, none⟩) s.heads.length u3))).heap[w.heap.size + 1 + 1]? = some (.cells #[.slice none 0 0, .slice none 0 0, .int .i64 0, .int .i64 0, .int .i64 0, .int .i64 0, .int .i64 0, .int .i64 0, .int .i64 0, .int .i64 0] 32)) := hidS (blk_other (B := w.heap.size) (blk_other (B := w.heap.size) R1.out (by omega) 0 (.slice (some ⟨b2, o2, none⟩) s.slots.length u2)) (by omega) 1 (.slice (some ⟨b3, o3, none⟩) s.heads.length u3))
    have P2 : Hid (RowB b2 o2 (flat s.slots) (((w1.setCell ⟨w.heap.size, 0, none⟩ (.slice (some ⟨b2, o2, none⟩) s.slots.length u2)).setCell ⟨w.heap.size, 1, none⟩ (.slice (some ⟨b3, o3, none⟩) s.heads.length u3)))) := hidS (RowB.other (g := w.heap.size) (k := 1) (v := .slice (some ⟨b3, o3, none⟩) s.heads.length u3) (RowB.other (g := w.heap.size) (k := 0) (v := .slice (some ⟨b2, o2, none⟩) s.slots.length u2) P1.out (by omega)) (by omega))
    have Q2 : Hid (RowB b3 o3 s.heads (((w1.setCell ⟨w.heap.size, 0, none⟩ (.slice (some ⟨b2, o2, none⟩) s.slots.length u2)).setCell ⟨w.heap.size, 1, none⟩ (.slice (some ⟨b3, o3, none⟩) s.heads.length u3)))) := hidS (RowB.other (g := w.heap.size) (k := 1) (v := .slice (some ⟨b3, o3, none⟩) s.heads.length u3) (RowB.other (g := w.heap.size) (k := 0) (v := .slice (some ⟨b2, o2, none⟩) s.slots.length u2) Q1.out (by omega)) (by omega))
    have L2 : Hid (Below w.heap.size w (((w1.setCell ⟨w.heap.size, 0, none⟩ (.slice (some ⟨b2, o2, none⟩) s.slots.length u2)).setCell ⟨w.heap.size, 1, none⟩ (.slice (some ⟨b3, o3, none⟩) s.heads.length u3)))) := hidS (below_at (k := 1) (b := w.heap.size) (v := .slice (some ⟨b3, o3, none⟩) s.heads.length u3) (below_at (k := 0) (b := w.heap.size) (v := .slice (some ⟨b2, o2, none⟩) s.slots.length u2) L1.out (by omega)) (by omega))
    clear L1 S1 K1 R1 P1 Q1
    generalize ((w1.setCell ⟨w.heap.size, 0, none⟩ (.slice (some ⟨b2, o2, none⟩) s.slots.length u2)).setCell ⟨w.heap.size, 1, none⟩ (.slice (some ⟨b3, o3, none⟩) s.heads.length u3)) = w2 at S2 K2 R2 P2 Q2 L2 ⊢
    go_wp2_with fail
    refine grow_once 9 [fun v => v = .agg #[.slice (some ⟨b2, o2, none⟩) s.slots.length u2, .slice (some ⟨b3, o3, none⟩) s.heads.length u3], fun v => v = .pointer (some ⟨w.heap.size + 1, 0, none⟩), fun v => v = .int .i64 key, fun v => v = .int .i64 c, fun v => v = .pointer (some ⟨w.heap.size + 1, 0, none⟩), fun v => v = .int .i64 key, fun v => ∃ B, v = .pointer (some ⟨B, 0, none⟩) ∧ w2.heap.size ≤ B, fun _ => True, fun v => v = .int .i64 key] 6 7 3 7 17 2 2 0 c _ rfl (by kernel_rfl) (by kernel_rfl) rfl rfl rfl (by decide) (by decide) rfl rfl ⟨_, mem0 rfl, rfl, rfl⟩ ⟨_, mem1 rfl, rfl, rfl⟩ (fun v h => h) (fun _ => trivial) (by kernel_rfl) ?steps2 ?fin2
    case steps2 =>
      refine ⟨?_, ?_, ?_, ?_, ?_, ?_, ?_, ?_, ?_, trivial⟩
      · refine ⟨rfl, fun _ v W ρ hC kc kf ks ki kd => ?_⟩
        have t3 : ρ (.tmp 3) = .pointer (some ⟨w.heap.size, 0, none⟩) := ki 3 (by decide)
        have hg := blk_later S2.out hC
        have c0 := blk_cell hg 0
        have c1 := blk_cell hg 1
        simp at c0 c1
        simp [execOp, go_sem, kc, t3, c0, c1]
        simp only [RanS]
        first | exact ⟨hC, Below.refl _ _, rfl⟩ | exact ⟨hC, Below.refl _ _, rfl, fun h => absurd h (by decide)⟩
      · refine ⟨rfl, fun _ v W ρ hC kc kf ks ki kd => ?_⟩
        have t4 : ρ (.tmp 4) = .pointer (some ⟨w.heap.size + 1, 0, none⟩) := ki 4 (by decide)
        simp [execOp, go_sem, kc, t4]
        simp only [RanS]
        first | exact ⟨hC, Below.refl _ _, rfl⟩ | exact ⟨hC, Below.refl _ _, rfl, fun h => absurd h (by decide)⟩
      · refine ⟨rfl, fun _ v W ρ hC kc kf ks ki kd => ?_⟩
        have d1 : v 1 = .pointer (some ⟨w.heap.size + 1, 0, none⟩) := by first | exact kd _ (mem0 rfl) rfl | exact kd _ (mem1 rfl) rfl | exact kd _ (mem2 rfl) rfl | exact kd _ (mem3 rfl) rfl | exact kd _ (mem4 rfl) rfl | exact kd _ (mem5 rfl) rfl
        have t15 : ρ (.tmp 15) = .pointer (some ⟨w.heap.size + 1, 0, none⟩) := (ks 1 15 (by decide) rfl).trans d1
        have hg := blk_later K2.out hC
        have c0 := blk_cell hg 0
        simp at c0
        simp [execOp, go_sem, kc, t15, c0]
        simp only [RanS]
        first | exact ⟨hC, Below.refl _ _, rfl⟩ | exact ⟨hC, Below.refl _ _, rfl, fun h => absurd h (by decide)⟩
      · refine ⟨rfl, fun _ v W ρ hC kc kf ks ki kd => ?_⟩
        have d0 : v 0 = .agg #[.slice (some ⟨b2, o2, none⟩) s.slots.length u2, .slice (some ⟨b3, o3, none⟩) s.heads.length u3] := by first | exact kd _ (mem0 rfl) rfl | exact kd _ (mem1 rfl) rfl | exact kd _ (mem2 rfl) rfl | exact kd _ (mem3 rfl) rfl | exact kd _ (mem4 rfl) rfl | exact kd _ (mem5 rfl) rfl
        have t14 : ρ (.tmp 14) = .agg #[.slice (some ⟨b2, o2, none⟩) s.slots.length u2, .slice (some ⟨b3, o3, none⟩) s.heads.length u3] := (ks 0 14 (by decide) rfl).trans d0
        have d2 : v 2 = .int .i64 key := by first | exact kd _ (mem0 rfl) rfl | exact kd _ (mem1 rfl) rfl | exact kd _ (mem2 rfl) rfl | exact kd _ (mem3 rfl) rfl | exact kd _ (mem4 rfl) rfl | exact kd _ (mem5 rfl) rfl
        have t16 : ρ (.tmp 16) = .int .i64 key := (ks 2 16 (by decide) rfl).trans d2
        simp [execOp, go_sem, t14, t16, kf]
        simp only [RanS]
        first | exact Calls.mono (HCF.out _ _ _ _ W) (fun e x h => ⟨_, h.1, hC.trans (h.2.mono hC.size), h.2, rfl⟩) | exact Calls.mono (HCF.out _ _ _ _ W) (fun e x h => ⟨_, h.1, hC.trans (h.2.mono hC.size), h.2, rfl, fun h => absurd h (by decide)⟩)
      · refine ⟨rfl, fun _ v W ρ hC kc kf ks ki kd => ?_⟩
        have t4 : ρ (.tmp 4) = .pointer (some ⟨w.heap.size + 1, 0, none⟩) := ki 4 (by decide)
        simp [execOp, go_sem, kc, t4]
        simp only [RanS]
        first | exact ⟨hC, Below.refl _ _, rfl⟩ | exact ⟨hC, Below.refl _ _, rfl, fun h => absurd h (by decide)⟩
      · refine ⟨rfl, fun _ v W ρ hC kc kf ks ki kd => ?_⟩
        have d4 : v 4 = .pointer (some ⟨w.heap.size + 1, 0, none⟩) := by first | exact kd _ (mem0 rfl) rfl | exact kd _ (mem1 rfl) rfl | exact kd _ (mem2 rfl) rfl | exact kd _ (mem3 rfl) rfl | exact kd _ (mem4 rfl) rfl | exact kd _ (mem5 rfl) rfl
        have t18 : ρ (.tmp 18) = .pointer (some ⟨w.heap.size + 1, 0, none⟩) := (ks 4 18 (by decide) rfl).trans d4
        have hg := blk_later K2.out hC
        have c0 := blk_cell hg 0
        simp at c0
        simp [execOp, go_sem, kc, t18, c0]
        simp only [RanS]
        first | exact ⟨hC, Below.refl _ _, rfl⟩ | exact ⟨hC, Below.refl _ _, rfl, fun h => absurd h (by decide)⟩
      · refine ⟨rfl, fun _ v W ρ hC kc kf ks ki kd => ?_⟩
        simp [execOp, go_sem]
        simp only [RanS]
        exact ⟨hC.alloc hC.size _, (Below.refl _ _).alloc (Nat.le_refl _) _, ⟨W.heap.size, rfl, hC.size⟩, W.heap.size, rfl, hC.size, heap_newG _ _⟩
      · exact ⟨rfl, fun h => absurd rfl h⟩
      · refine ⟨rfl, fun _ v W ρ hC kc kf ks ki kd => ?_⟩
        have d5 : v 5 = .int .i64 key := by first | exact kd _ (mem0 rfl) rfl | exact kd _ (mem1 rfl) rfl | exact kd _ (mem2 rfl) rfl | exact kd _ (mem3 rfl) rfl | exact kd _ (mem4 rfl) rfl | exact kd _ (mem5 rfl) rfl
        have t19 : ρ (.tmp 19) = .int .i64 key := (ks 5 19 (by decide) rfl).trans d5
        simp [execOp, go_sem, kc, t19]
        simp only [RanS]
        first | exact ⟨hC, Below.refl _ _, rfl⟩ | exact ⟨hC, Below.refl _ _, rfl, fun h => absurd h (by decide)⟩
    intro v w3 go hb hvB hgo hO hall
    have hv3 : v 3 = .int .i64 c := hall 3 (by decide)
    have hv8 : v 8 = .int .i64 key := hall 8 (by decide)
    simp [upto, Act.put]
    rw [hvB, hv8]
    clear hall hvB hv3 hv8
    have lR := blk_lt R2.out
    have S3 := hidS (blk_later S2.out hb)
    have K3 := hidS (blk_later K2.out hb)
    have R3 := hidS (blk_later R2.out hb)
    have P3 := hidS (P2.out.later hb)
    have Q3 := hidS (Q2.out.later hb)
    have L3 := hidS (L2.out.trans (hb.mono L2.out.size))
    clear L2 hb S2 K2 R2 P2 Q2
    have O3 := hidS hO
    clear hO
    go_wp2_with fail
    go_step3
    simp only [Exit.then]
    rename_i hK
    refine hK _ _ (HF _ _ ?_)
    exact ⟨n, (n : Int), s, go, b2, o2, u2, b3, o3, u3, cur, stage, state, slot, gen, steps, by kernel_rfl, rfl, by omega, ⟨S3.out, K3.out, R3.out, O3.out, P3.out, Q3.out, by omega, L3.out⟩, FF0⟩
  · clear HCP HCF FF0 N1 N3 hr hw hn
    intro a' w0 hJ
    obtain ⟨n, nn, s', go, b2, o2, u2, b3, o3, u3, cur', stage', state', slot', gen', steps', hfr, rfl, hn, hM, HW⟩ := hJ
    generalize (fun i => a'.tmps.getD i undef) = f at hfr
    subst hfr
    unfold wonFr
    have S0 := hidS hM.S
    have K0 := hidS hM.K
    have R0 := hidS hM.R
    have O0 := hidS hM.O
    have P0 := hidS hM.P
    have Q0 := hidS hM.Q
    have L0 := hidS hM.L
    obtain ⟨lb1, lb2, lb3, lb4⟩ := hM.lb
    clear hM
    obtain ⟨hr', hw', hrun, hh⟩ := HW.out
    obtain ⟨hk, hp, ho, ht⟩ := wk_parts.1 hw'
    obtain ⟨pc1, pc2, pc3, pc4⟩ := place_cur hp
    simp only at hk hp ho ht pc1 pc2 pc3 pc4
    by_cases hgo : 0 < n ∧ goB ⟨key, cur', stage', state', slot', gen', steps'⟩ = true
    · obtain ⟨m, hm⟩ : ∃ m, n = m + 1 := ⟨n - 1, by omega⟩
      have hg := hgo.2
      unfold goB at hg
      simp only [Bool.and_eq_true, decide_eq_true_eq] at hg
      obtain ⟨e0, hs1⟩ := hg
      obtain ⟨z1, z2⟩ := out_zero ho e0
      simp only at z1 z2
      subst e0
      subst z1
      subst z2
      rw [hm, run_go hgo.2] at hrun
      have hpos : 0 < n := by omega
      have HM := hidS hm
      clear hm
      have hn0 : ((n : Int) == 0) = false := beq_eq_false_iff_ne.2 (by omega)
      have hsb : (steps' == 1000000) = false := beq_eq_false_iff_ne.2 (by omega)
      rcases (by omega : stage' = 0 ∨ stage' = 1 ∨ stage' = 2) with hst | hst | hst
      · subst hst
        have HG := hidS (show WonG F s m s' ⟨key, cur', 0, 0, 0, 0, steps'⟩ from ⟨hr', hw', hgo.2, hrun, hh⟩)
        clear hr' hw' hrun hh hp ho hk hgo
        have k0 := blk_cell K0.out 0
        have k1 := blk_cell K0.out 1
        have k2 := blk_cell K0.out 2
        have k3 := blk_cell K0.out 3
        have k4 := blk_cell K0.out 4
        have k5 := blk_cell K0.out 5
        have k6 := blk_cell K0.out 6
        simp at k0 k1 k2 k3 k4 k5 k6
        have fK := blk_free K0.out
        go_upto_region 8 with fail
        clear k0 k1 k2 k3 k4 k5 k6 fK
        have S1 : Hid (((w0.setCell ⟨w.heap.size + 1, 6, none⟩ (.int .i64 (steps' + 1)))).heap[w.heap.size]? = some (.cells #[.slice (some ⟨b2, o2, none⟩) s'.slots.length u2, .slice (some ⟨b3, o3, none⟩) s'.heads.length u3] 26)) := hidS (blk_other (B := w.heap.size + 1) S0.out (by omega) 6 (.int .i64 (steps' + 1)))
        have K1 : Hid (((w0.setCell ⟨w.heap.size + 1, 6, none⟩ (.int .i64 (steps' + 1)))).heap[w.heap.size + 1]? = some (.cells #[.int .i64 key, .int .i64 cur', .int .i64 0, .int .i64 0, .int .i64 0, .int .i64 0, .int .i64 (steps' + 1)] 30)) := by
          have := (blk_set K0.out 6 (.int .i64 (steps' + 1)))
          exact this
        have R1 : Hid (((w0.setCell ⟨w.heap.size + 1, 6, none⟩ (.int .i64 (steps' + 1)))).heap[w.heap.size + 1 + 1]? = some (.cells #[.slice none 0 0, .slice none 0 0, .int .i64 0, .int .i64 0, .int .i64 0, .int .i64 0, .int .i64 0, .int .i64 0, .int .i64 0, .int .i64 0] 32)) := hidS (blk_other (B := w.heap.size + 1) R0.out (by omega) 6 (.int .i64 (steps' + 1)))
        have O1 : Hid (((w0.setCell ⟨w.heap.size + 1, 6, none⟩ (.int .i64 (steps' + 1)))).heap[go]? = some (.cells #[.int .i64 c] 2)) := hidS (blk_other (B := w.heap.size + 1) O0.out (by omega) 6 (.int .i64 (steps' + 1)))
        have P1 : Hid (RowB b2 o2 (flat s'.slots) ((w0.setCell ⟨w.heap.size + 1, 6, none⟩ (.int .i64 (steps' + 1))))) := hidS (RowB.other (g := w.heap.size + 1) (k := 6) (v := .int .i64 (steps' + 1)) P0.out (by omega))
        have Q1 : Hid (RowB b3 o3 s'.heads ((w0.setCell ⟨w.heap.size + 1, 6, none⟩ (.int .i64 (steps' + 1))))) := hidS (RowB.other (g := w.heap.size + 1) (k := 6) (v := .int .i64 (steps' + 1)) Q0.out (by omega))
        have L1 : Hid (Below w.heap.size w ((w0.setCell ⟨w.heap.size + 1, 6, none⟩ (.int .i64 (steps' + 1))))) := hidS (below_at (k := 6) (b := w.heap.size + 1) (v := .int .i64 (steps' + 1)) L0.out (by omega))
        clear L0 S0 K0 R0 O0 P0 Q0
        generalize (w0.setCell ⟨w.heap.size + 1, 6, none⟩ (.int .i64 (steps' + 1))) = w1 at S1 K1 R1 O1 P1 Q1 L1 ⊢
        have k0 := blk_cell K1.out 0
        have k1 := blk_cell K1.out 1
        have k2 := blk_cell K1.out 2
        have k3 := blk_cell K1.out 3
        have k4 := blk_cell K1.out 4
        have k5 := blk_cell K1.out 5
        have k6 := blk_cell K1.out 6
        simp at k0 k1 k2 k3 k4 k5 k6
        go_wp2_with fail
        go_step3
        have hm := HM.out
        exact ⟨⟨m, (n : Int) - 1, s', go, b2, o2, u2, b3, o3, u3, cur', steps', by kernel_rfl, by omega, by omega, ⟨S1.out, K1.out, R1.out, O1.out, P1.out, Q1.out, by omega, L1.out⟩, HG⟩, by show 2 * (intOf (.int .i64 ((n : Int) - 1))).toNat + 1 < 2 * (intOf (.int .i64 (n : Int))).toNat; simp only [intOf]; omega⟩
      · subst hst
        have HG := hidS (show WonG F s m s' ⟨key, cur', 1, 0, 0, 0, steps'⟩ from ⟨hr', hw', hgo.2, hrun, hh⟩)
        clear hr' hw' hrun hh hp ho hk hgo
        have k0 := blk_cell K0.out 0
        have k1 := blk_cell K0.out 1
        have k2 := blk_cell K0.out 2
        have k3 := blk_cell K0.out 3
        have k4 := blk_cell K0.out 4
        have k5 := blk_cell K0.out 5
        have k6 := blk_cell K0.out 6
        simp at k0 k1 k2 k3 k4 k5 k6
        have fK := blk_free K0.out
        go_upto_region 8 with fail
        clear k0 k1 k2 k3 k4 k5 k6 fK
        have S1 : Hid (((w0.setCell ⟨w.heap.size + 1, 6, none⟩ (.int .i64 (steps' + 1)))).heap[w.heap.size]? = some (.cells #[.slice (some ⟨b2, o2, none⟩) s'.slots.length u2, .slice (some ⟨b3, o3, none⟩) s'.heads.length u3] 26)) := hidS (blk_other (B := w.heap.size + 1) S0.out (by omega) 6 (.int .i64 (steps' + 1)))
        have K1 : Hid (((w0.setCell ⟨w.heap.size + 1, 6, none⟩ (.int .i64 (steps' + 1)))).heap[w.heap.size + 1]? = some (.cells #[.int .i64 key, .int .i64 cur', .int .i64 1, .int .i64 0, .int .i64 0, .int .i64 0, .int .i64 (steps' + 1)] 30)) := by
          have := (blk_set K0.out 6 (.int .i64 (steps' + 1)))
          exact this
        have R1 : Hid (((w0.setCell ⟨w.heap.size + 1, 6, none⟩ (.int .i64 (steps' + 1)))).heap[w.heap.size + 1 + 1]? = some (.cells #[.slice none 0 0, .slice none 0 0, .int .i64 0, .int .i64 0, .int .i64 0, .int .i64 0, .int .i64 0, .int .i64 0, .int .i64 0, .int .i64 0] 32)) := hidS (blk_other (B := w.heap.size + 1) R0.out (by omega) 6 (.int .i64 (steps' + 1)))
        have O1 : Hid (((w0.setCell ⟨w.heap.size + 1, 6, none⟩ (.int .i64 (steps' + 1)))).heap[go]? = some (.cells #[.int .i64 c] 2)) := hidS (blk_other (B := w.heap.size + 1) O0.out (by omega) 6 (.int .i64 (steps' + 1)))
        have P1 : Hid (RowB b2 o2 (flat s'.slots) ((w0.setCell ⟨w.heap.size + 1, 6, none⟩ (.int .i64 (steps' + 1))))) := hidS (RowB.other (g := w.heap.size + 1) (k := 6) (v := .int .i64 (steps' + 1)) P0.out (by omega))
        have Q1 : Hid (RowB b3 o3 s'.heads ((w0.setCell ⟨w.heap.size + 1, 6, none⟩ (.int .i64 (steps' + 1))))) := hidS (RowB.other (g := w.heap.size + 1) (k := 6) (v := .int .i64 (steps' + 1)) Q0.out (by omega))
        have L1 : Hid (Below w.heap.size w ((w0.setCell ⟨w.heap.size + 1, 6, none⟩ (.int .i64 (steps' + 1))))) := hidS (below_at (k := 6) (b := w.heap.size + 1) (v := .int .i64 (steps' + 1)) L0.out (by omega))
        clear L0 S0 K0 R0 O0 P0 Q0
        generalize (w0.setCell ⟨w.heap.size + 1, 6, none⟩ (.int .i64 (steps' + 1))) = w1 at S1 K1 R1 O1 P1 Q1 L1 ⊢
        have k0 := blk_cell K1.out 0
        have k1 := blk_cell K1.out 1
        have k2 := blk_cell K1.out 2
        have k3 := blk_cell K1.out 3
        have k4 := blk_cell K1.out 4
        have k5 := blk_cell K1.out 5
        have k6 := blk_cell K1.out 6
        simp at k0 k1 k2 k3 k4 k5 k6
        go_wp2_with fail
        go_step3
        have hm := HM.out
        exact ⟨⟨m, (n : Int) - 1, s', go, b2, o2, u2, b3, o3, u3, cur', steps', by kernel_rfl, by omega, by omega, ⟨S1.out, K1.out, R1.out, O1.out, P1.out, Q1.out, by omega, L1.out⟩, HG⟩, by show 2 * (intOf (.int .i64 ((n : Int) - 1))).toNat + 1 < 2 * (intOf (.int .i64 (n : Int))).toNat; simp only [intOf]; omega⟩
      · subst hst
        have HG := hidS (show WonG F s m s' ⟨key, cur', 2, 0, 0, 0, steps'⟩ from ⟨hr', hw', hgo.2, hrun, hh⟩)
        clear hr' hw' hrun hh hp ho hk hgo
        have k0 := blk_cell K0.out 0
        have k1 := blk_cell K0.out 1
        have k2 := blk_cell K0.out 2
        have k3 := blk_cell K0.out 3
        have k4 := blk_cell K0.out 4
        have k5 := blk_cell K0.out 5
        have k6 := blk_cell K0.out 6
        simp at k0 k1 k2 k3 k4 k5 k6
        have fK := blk_free K0.out
        go_upto_region 8 with fail
        clear k0 k1 k2 k3 k4 k5 k6 fK
        have S1 : Hid (((w0.setCell ⟨w.heap.size + 1, 6, none⟩ (.int .i64 (steps' + 1)))).heap[w.heap.size]? = some (.cells #[.slice (some ⟨b2, o2, none⟩) s'.slots.length u2, .slice (some ⟨b3, o3, none⟩) s'.heads.length u3] 26)) := hidS (blk_other (B := w.heap.size + 1) S0.out (by omega) 6 (.int .i64 (steps' + 1)))
        have K1 : Hid (((w0.setCell ⟨w.heap.size + 1, 6, none⟩ (.int .i64 (steps' + 1)))).heap[w.heap.size + 1]? = some (.cells #[.int .i64 key, .int .i64 cur', .int .i64 2, .int .i64 0, .int .i64 0, .int .i64 0, .int .i64 (steps' + 1)] 30)) := by
          have := (blk_set K0.out 6 (.int .i64 (steps' + 1)))
          exact this
        have R1 : Hid (((w0.setCell ⟨w.heap.size + 1, 6, none⟩ (.int .i64 (steps' + 1)))).heap[w.heap.size + 1 + 1]? = some (.cells #[.slice none 0 0, .slice none 0 0, .int .i64 0, .int .i64 0, .int .i64 0, .int .i64 0, .int .i64 0, .int .i64 0, .int .i64 0, .int .i64 0] 32)) := hidS (blk_other (B := w.heap.size + 1) R0.out (by omega) 6 (.int .i64 (steps' + 1)))
        have O1 : Hid (((w0.setCell ⟨w.heap.size + 1, 6, none⟩ (.int .i64 (steps' + 1)))).heap[go]? = some (.cells #[.int .i64 c] 2)) := hidS (blk_other (B := w.heap.size + 1) O0.out (by omega) 6 (.int .i64 (steps' + 1)))
        have P1 : Hid (RowB b2 o2 (flat s'.slots) ((w0.setCell ⟨w.heap.size + 1, 6, none⟩ (.int .i64 (steps' + 1))))) := hidS (RowB.other (g := w.heap.size + 1) (k := 6) (v := .int .i64 (steps' + 1)) P0.out (by omega))
        have Q1 : Hid (RowB b3 o3 s'.heads ((w0.setCell ⟨w.heap.size + 1, 6, none⟩ (.int .i64 (steps' + 1))))) := hidS (RowB.other (g := w.heap.size + 1) (k := 6) (v := .int .i64 (steps' + 1)) Q0.out (by omega))
        have L1 : Hid (Below w.heap.size w ((w0.setCell ⟨w.heap.size + 1, 6, none⟩ (.int .i64 (steps' + 1))))) := hidS (below_at (k := 6) (b := w.heap.size + 1) (v := .int .i64 (steps' + 1)) L0.out (by omega))
        clear L0 S0 K0 R0 O0 P0 Q0
        generalize (w0.setCell ⟨w.heap.size + 1, 6, none⟩ (.int .i64 (steps' + 1))) = w1 at S1 K1 R1 O1 P1 Q1 L1 ⊢
        have k0 := blk_cell K1.out 0
        have k1 := blk_cell K1.out 1
        have k2 := blk_cell K1.out 2
        have k3 := blk_cell K1.out 3
        have k4 := blk_cell K1.out 4
        have k5 := blk_cell K1.out 5
        have k6 := blk_cell K1.out 6
        simp at k0 k1 k2 k3 k4 k5 k6
        go_wp2_with fail
        go_step3
        have hm := HM.out
        exact ⟨⟨m, (n : Int) - 1, s', go, b2, o2, u2, b3, o3, u3, cur', steps', by kernel_rfl, by omega, by omega, ⟨S1.out, K1.out, R1.out, O1.out, P1.out, Q1.out, by omega, L1.out⟩, HG⟩, by show 2 * (intOf (.int .i64 ((n : Int) - 1))).toNat + 1 < 2 * (intOf (.int .i64 (n : Int))).toNat; simp only [intOf]; omega⟩
    · have E : runP n s' ⟨key, cur', stage', state', slot', gen', steps'⟩ = (s', ⟨key, cur', stage', state', slot', gen', steps'⟩) := by
        by_cases h0 : 0 < n
        · exact run_stop (by cases hg : goB ⟨key, cur', stage', state', slot', gen', steps'⟩; rfl; exact absurd ⟨h0, hg⟩ hgo) n
        · have : n = 0 := by omega
          subst this; rfl
      rw [E] at hrun
      subst hrun
      have H1 := hidS ho
      by_cases h0 : n = 0
      · have hn0 : ((n : Int) == 0) = true := beq_iff_eq.2 (by omega)
        clear h0
        clear E hr' hw' hh hp ho hk hgo HW
        have k0 := blk_cell K0.out 0
        have k1 := blk_cell K0.out 1
        have k2 := blk_cell K0.out 2
        have k3 := blk_cell K0.out 3
        have k4 := blk_cell K0.out 4
        have k5 := blk_cell K0.out 5
        have k6 := blk_cell K0.out 6
        simp at k0 k1 k2 k3 k4 k5 k6
        have s0 := blk_cell S0.out 0
        have s1 := blk_cell S0.out 1
        simp at s0 s1
        have kR := blk_cell R0.out
        have fR := blk_free R0.out
        have hP := P0.out
        have hQ := Q0.out
        have hLL := L0.out
        go_wp2_with fail
        rw [exitJumps_ret]
        refine bodyPost_ret (v := .agg #[.slice (some ⟨b2, o2, none⟩) s'.slots.length u2, .slice (some ⟨b3, o3, none⟩) s'.heads.length u3, .int .i64 key, .int .i64 cur', .int .i64 stage', .int .i64 state', .int .i64 slot', .int .i64 gen', .int .i64 steps', .int .i64 0]) (by simp [results, Try.results51, go_sem, *]) rfl ?_
        refine ⟨_, _, _, _, rfl, rows_own (by omega) (by omega) lb3 ?_ ?_, ?_⟩
        · repeat (refine RowB.other ?_ (by omega))
          exact hP
        · repeat (refine RowB.other ?_ (by omega))
          exact hQ
        · repeat (refine below_at ?_ (by omega))
          exact hLL
      have hn0 : ((n : Int) == 0) = false := beq_eq_false_iff_ne.2 (by omega)
      by_cases h1 : state' = 0
      · have hs1 : (state' == 0) = true := beq_iff_eq.2 h1
        have hsb : (steps' == 1000000) = true := beq_iff_eq.2 (by
          have : ¬ steps' < 1000000 := fun h => hgo ⟨by omega, by unfold goB; simp [h1, h]⟩
          omega)
        clear h0
        subst h1
        clear hs1
        clear E hr' hw' hh hp ho hk hgo HW
        have k0 := blk_cell K0.out 0
        have k1 := blk_cell K0.out 1
        have k2 := blk_cell K0.out 2
        have k3 := blk_cell K0.out 3
        have k4 := blk_cell K0.out 4
        have k5 := blk_cell K0.out 5
        have k6 := blk_cell K0.out 6
        simp at k0 k1 k2 k3 k4 k5 k6
        have s0 := blk_cell S0.out 0
        have s1 := blk_cell S0.out 1
        simp at s0 s1
        have kR := blk_cell R0.out
        have fR := blk_free R0.out
        have hP := P0.out
        have hQ := Q0.out
        have hLL := L0.out
        go_wp2_with fail
        rw [exitJumps_ret]
        refine bodyPost_ret (v := .agg #[.slice (some ⟨b2, o2, none⟩) s'.slots.length u2, .slice (some ⟨b3, o3, none⟩) s'.heads.length u3, .int .i64 key, .int .i64 cur', .int .i64 stage', .int .i64 0, .int .i64 slot', .int .i64 gen', .int .i64 steps', .int .i64 0]) (by simp [results, Try.results51, go_sem, *]) rfl ?_
        refine ⟨_, _, _, _, rfl, rows_own (by omega) (by omega) lb3 ?_ ?_, ?_⟩
        · repeat (refine RowB.other ?_ (by omega))
          exact hP
        · repeat (refine RowB.other ?_ (by omega))
          exact hQ
        · repeat (refine below_at ?_ (by omega))
          exact hLL
      · have hs1 : (state' == 0) = false := beq_eq_false_iff_ne.2 h1
        clear h1 h0
        clear E hr' hw' hh hp ho hk hgo HW
        have k0 := blk_cell K0.out 0
        have k1 := blk_cell K0.out 1
        have k2 := blk_cell K0.out 2
        have k3 := blk_cell K0.out 3
        have k4 := blk_cell K0.out 4
        have k5 := blk_cell K0.out 5
        have k6 := blk_cell K0.out 6
        simp at k0 k1 k2 k3 k4 k5 k6
        have s0 := blk_cell S0.out 0
        have s1 := blk_cell S0.out 1
        simp at s0 s1
        have kR := blk_cell R0.out
        have fR := blk_free R0.out
        have hP := P0.out
        have hQ := Q0.out
        have hLL := L0.out
        go_wp2_with fail
        rw [exitJumps_ret]
        refine bodyPost_ret (v := .agg #[.slice (some ⟨b2, o2, none⟩) s'.slots.length u2, .slice (some ⟨b3, o3, none⟩) s'.heads.length u3, .int .i64 key, .int .i64 cur', .int .i64 stage', .int .i64 state', .int .i64 slot', .int .i64 gen', .int .i64 steps', .int .i64 0]) (by simp [results, Try.results51, go_sem, *]) rfl ?_
        refine ⟨_, _, _, _, rfl, rows_own (by omega) (by omega) lb3 ?_ ?_, ?_⟩
        · repeat (refine RowB.other ?_ (by omega))
          exact hP
        · repeat (refine RowB.other ?_ (by omega))
          exact hQ
        · repeat (refine below_at ?_ (by omega))
          exact hLL
  · clear HCP HCF FF0 N1 N3 hr hw hn hcl
    intro l a' w0 hl hJ
    match l, hl, hJ with
    | 0, hl, _ => exact absurd rfl hl
    | 1, _, hJ =>
      refine ⟨_, rfl, ?_⟩
      obtain ⟨n, nn, s', go, b2, o2, u2, b3, o3, u3, cur', steps', hfr, rfl, hn, hM, HW⟩ := hJ
      generalize (fun i => a'.tmps.getD i undef) = f at hfr
      subst hfr
      unfold wonFr
      have S0 := hidS hM.S
      have K0 := hidS hM.K
      have R0 := hidS hM.R
      have O0 := hidS hM.O
      have P0 := hidS hM.P
      have Q0 := hidS hM.Q
      have L0 := hidS hM.L
      obtain ⟨lb1, lb2, lb3, lb4⟩ := hM.lb
      clear hM
      obtain ⟨hr', hw', hg', hrun, hh⟩ := HW.out
      obtain ⟨hk, hp, ho, ht⟩ := wk_parts.1 hw'
      obtain ⟨pc1, pc2, pc3, pc4⟩ := place_cur hp
      simp only at hk hp ho ht pc1 pc2 pc3 pc4
      obtain ⟨_, y1, y2, y3, y4⟩ := right_leads hr'
      have hlen : s'.heads.length = s.heads.length := by rw [hh]
      have hc' : (chN s' key : Int) = c := by rw [← HCE.out]; unfold chN; rw [hlen]
      have hcl' : chN s' key < s'.heads.length := (chN_lt hk.1 y3).1
      have hC := hidS hc'
      have hCL := hidS hcl'
      clear hrun hh hp ho hlen hc' hcl'
      have HEO := hidS (fun W => Calls.mono (endOf_any c W ⟨by have := hC.out; omega, by have := hC.out; have := hCL.out; omega⟩) (fun e x h => (⟨h.1, h.2 ▸ Below.refl _ _⟩ : e = .returned (.int .i64 (-1 - c)) ∧ Below W.heap.size W x)))
      by_cases hc : cur' < 0
      · have hmm : key.tmod s'.heads.length = c := by rw [← hC.out]; exact (chN_lt hk.1 y3).2.symm
        by_cases he : cur' = -1 - c
        · have heq : (cur' == -1 - c) = true := beq_iff_eq.2 (by omega)
          go_wp2_with fail
          refine grow_guarded 6 [.is (.pointer (some ⟨w.heap.size + 1, 1, none⟩)), .is (.int .i64 cur'), .is (.int .i64 c), .is (.int .i64 (-1 - c)), .is (.bool true), .is (.bool true)] rfl (by kernel_rfl) (by kernel_rfl) ?stepsLa ?finLa
          case stepsLa =>
            refine ⟨?_, ?_, ?_, ?_, ?_, ?_, trivial⟩
            · refine stepW_of_u ⟨rfl, fun v W ρ hC kc kf ks ki kd => ?_⟩
              have t4 : ρ (.tmp 4) = .pointer (some ⟨w.heap.size + 1, 0, none⟩) := ki 4 (by decide)
              simp [execOp, go_sem, kc, t4]
              exact ⟨hC, Below.refl _ _, rfl⟩
            · refine stepW_of_u ⟨rfl, fun v W ρ hC kc kf ks ki kd => ?_⟩
              have d0 : v 0 = .pointer (some ⟨w.heap.size + 1, 1, none⟩) := (kdj kd 0 rfl :)
              have t57 : ρ (.tmp 57) = .pointer (some ⟨w.heap.size + 1, 1, none⟩) := (ks 0 57 (by decide) rfl).trans d0
              have hg := blk_later K0.out hC
              have c1 := blk_cell hg 1
              simp at c1
              simp [execOp, go_sem, kc, t57, c1]
              exact ⟨hC, Below.refl _ _, rfl⟩
            · refine stepW_of_u ⟨rfl, fun v W ρ hC kc kf ks ki kd => ?_⟩
              have t7 : ρ (.tmp 7) = .pointer (some ⟨go, 0, none⟩) := ki 7 (by decide)
              have hg := blk_later O0.out hC
              have c0 := blk_cell hg 0
              simp at c0
              simp [execOp, go_sem, kc, t7, c0]
              exact ⟨hC, Below.refl _ _, rfl⟩
            · refine stepW_of_u ⟨rfl, fun v W ρ hC kc kf ks ki kd => ?_⟩
              have d2 : v 2 = .int .i64 c := (kdj kd 2 rfl :)
              have t59 : ρ (.tmp 59) = .int .i64 c := (ks 2 59 (by decide) rfl).trans d2
              simp [execOp, go_sem, t59, kf]
              exact Calls.mono (HEO.out W) (fun e x h => ⟨_, h.1, hC.trans (h.2.mono hC.size), h.2, rfl⟩)
            · refine stepW_of_u ⟨rfl, fun v W ρ hC kc kf ks ki kd => ?_⟩
              have d1 : v 1 = .int .i64 cur' := (kdj kd 1 rfl :)
              have t58 : ρ (.tmp 58) = .int .i64 cur' := (ks 1 58 (by decide) rfl).trans d1
              have d3 : v 3 = .int .i64 (-1 - c) := (kdj kd 3 rfl :)
              have t60 : ρ (.tmp 60) = .int .i64 (-1 - c) := (ks 3 60 (by decide) rfl).trans d3
              simp [execOp, go_sem, kc, t58, t60, heq]
              exact ⟨hC, Below.refl _ _, rfl⟩
            · refine stepW_of_u ⟨rfl, fun v W ρ hC kc kf ks ki kd => ?_⟩
              have d4 : v 4 = .bool true := (kdj kd 4 rfl :)
              have t61 : ρ (.tmp 61) = .bool true := (ks 4 61 (by decide) rfl).trans d4
              simp [execOp, go_sem, kc, t61]
              exact ⟨hC, Below.refl _ _, rfl⟩
          intro vLa w1 hb hall
          have hvLa : vLa 5 = .bool true := hall 5 (by decide)
          simp [upto, Act.put]
          rw [hvLa]
          clear hall hvLa
          have S1 := hidS (blk_later S0.out hb)
          have K1 := hidS (blk_later K0.out hb)
          have R1 := hidS (blk_later R0.out hb)
          have O1 := hidS (blk_later O0.out hb)
          have P1 := hidS (P0.out.later hb)
          have Q1 := hidS (Q0.out.later hb)
          have L1 := hidS (L0.out.trans (hb.mono L0.out.size))
          clear L0 hb S0 K0 R0 O0 P0 Q0
          have k0 := blk_cell K1.out 0
          have k1 := blk_cell K1.out 1
          have k2 := blk_cell K1.out 2
          have k3 := blk_cell K1.out 3
          have k4 := blk_cell K1.out 4
          have k5 := blk_cell K1.out 5
          have k6 := blk_cell K1.out 6
          simp at k0 k1 k2 k3 k4 k5 k6
          have fK := blk_free K1.out
          go_wp2_with fail
          clear k0 k1 k2 k3 k4 k5 k6 fK
          have S2 : Hid (((w1.setCell ⟨w.heap.size + 1, 3, none⟩ (.int .i64 2))).heap[w.heap.size]? = some (.cells #[.slice (some ⟨b2, o2, none⟩) s'.slots.length u2, .slice (some ⟨b3, o3, none⟩) s'.heads.length u3] 26)) := hidS (blk_other (B := w.heap.size + 1) S1.out (by omega) 3 (.int .i64 2))
          have K2 : Hid (((w1.setCell ⟨w.heap.size + 1, 3, none⟩ (.int .i64 2))).heap[w.heap.size + 1]? = some (.cells #[.int .i64 key, .int .i64 cur', .int .i64 0, .int .i64 2, .int .i64 0, .int .i64 0, .int .i64 (steps' + 1)] 30)) := by
            have := (blk_set K1.out 3 (.int .i64 2))
            exact this
          have R2 : Hid (((w1.setCell ⟨w.heap.size + 1, 3, none⟩ (.int .i64 2))).heap[w.heap.size + 1 + 1]? = some (.cells #[.slice none 0 0, .slice none 0 0, .int .i64 0, .int .i64 0, .int .i64 0, .int .i64 0, .int .i64 0, .int .i64 0, .int .i64 0, .int .i64 0] 32)) := hidS (blk_other (B := w.heap.size + 1) R1.out (by omega) 3 (.int .i64 2))
          have O2 : Hid (((w1.setCell ⟨w.heap.size + 1, 3, none⟩ (.int .i64 2))).heap[go]? = some (.cells #[.int .i64 c] 2)) := hidS (blk_other (B := w.heap.size + 1) O1.out (by omega) 3 (.int .i64 2))
          have P2 : Hid (RowB b2 o2 (flat s'.slots) ((w1.setCell ⟨w.heap.size + 1, 3, none⟩ (.int .i64 2)))) := hidS (RowB.other (g := w.heap.size + 1) (k := 3) (v := .int .i64 2) P1.out (by omega))
          have Q2 : Hid (RowB b3 o3 s'.heads ((w1.setCell ⟨w.heap.size + 1, 3, none⟩ (.int .i64 2)))) := hidS (RowB.other (g := w.heap.size + 1) (k := 3) (v := .int .i64 2) Q1.out (by omega))
          have L2 : Hid (Below w.heap.size w ((w1.setCell ⟨w.heap.size + 1, 3, none⟩ (.int .i64 2)))) := hidS (below_at (k := 3) (b := w.heap.size + 1) (v := .int .i64 2) L1.out (by omega))
          clear L1 S1 K1 R1 O1 P1 Q1
          generalize (w1.setCell ⟨w.heap.size + 1, 3, none⟩ (.int .i64 2)) = w2 at S2 K2 R2 O2 P2 Q2 L2 ⊢
          have HE : stepP s' ⟨key, cur', 0, 0, 0, 0, steps'⟩ = (s', ⟨key, cur', 0, 2, 0, 0, (steps' + 1)⟩) := by unfold stepP; rw [if_pos hc, if_pos (by show -1 - cur' = key.tmod s'.heads.length; rw [hmm]; omega)]
          have HF2 := hidS (won_step HW.out HE)
          clear HE
          go_wp2_with fail
          go_step3
          exact ⟨⟨n, (n : Int), s', go, b2, o2, u2, b3, o3, u3, cur', 0, 2, 0, 0, (steps' + 1), by kernel_rfl, rfl, by omega, ⟨S2.out, K2.out, R2.out, O2.out, P2.out, Q2.out, by omega, L2.out⟩, HF2⟩, by show 2 * (intOf (.int .i64 (n : Int))).toNat < 2 * (intOf (.int .i64 (n : Int))).toNat + 1; omega⟩
        · have heq : (cur' == -1 - c) = false := beq_eq_false_iff_ne.2 (by omega)
          go_wp2_with fail
          refine grow_guarded 6 [.is (.pointer (some ⟨w.heap.size + 1, 1, none⟩)), .is (.int .i64 cur'), .is (.int .i64 c), .is (.int .i64 (-1 - c)), .is (.bool false), .is (.bool false)] rfl (by kernel_rfl) (by kernel_rfl) ?stepsLb ?finLb
          case stepsLb =>
            refine ⟨?_, ?_, ?_, ?_, ?_, ?_, trivial⟩
            · refine stepW_of_u ⟨rfl, fun v W ρ hC kc kf ks ki kd => ?_⟩
              have t4 : ρ (.tmp 4) = .pointer (some ⟨w.heap.size + 1, 0, none⟩) := ki 4 (by decide)
              simp [execOp, go_sem, kc, t4]
              exact ⟨hC, Below.refl _ _, rfl⟩
            · refine stepW_of_u ⟨rfl, fun v W ρ hC kc kf ks ki kd => ?_⟩
              have d0 : v 0 = .pointer (some ⟨w.heap.size + 1, 1, none⟩) := (kdj kd 0 rfl :)
              have t57 : ρ (.tmp 57) = .pointer (some ⟨w.heap.size + 1, 1, none⟩) := (ks 0 57 (by decide) rfl).trans d0
              have hg := blk_later K0.out hC
              have c1 := blk_cell hg 1
              simp at c1
              simp [execOp, go_sem, kc, t57, c1]
              exact ⟨hC, Below.refl _ _, rfl⟩
            · refine stepW_of_u ⟨rfl, fun v W ρ hC kc kf ks ki kd => ?_⟩
              have t7 : ρ (.tmp 7) = .pointer (some ⟨go, 0, none⟩) := ki 7 (by decide)
              have hg := blk_later O0.out hC
              have c0 := blk_cell hg 0
              simp at c0
              simp [execOp, go_sem, kc, t7, c0]
              exact ⟨hC, Below.refl _ _, rfl⟩
            · refine stepW_of_u ⟨rfl, fun v W ρ hC kc kf ks ki kd => ?_⟩
              have d2 : v 2 = .int .i64 c := (kdj kd 2 rfl :)
              have t59 : ρ (.tmp 59) = .int .i64 c := (ks 2 59 (by decide) rfl).trans d2
              simp [execOp, go_sem, t59, kf]
              exact Calls.mono (HEO.out W) (fun e x h => ⟨_, h.1, hC.trans (h.2.mono hC.size), h.2, rfl⟩)
            · refine stepW_of_u ⟨rfl, fun v W ρ hC kc kf ks ki kd => ?_⟩
              have d1 : v 1 = .int .i64 cur' := (kdj kd 1 rfl :)
              have t58 : ρ (.tmp 58) = .int .i64 cur' := (ks 1 58 (by decide) rfl).trans d1
              have d3 : v 3 = .int .i64 (-1 - c) := (kdj kd 3 rfl :)
              have t60 : ρ (.tmp 60) = .int .i64 (-1 - c) := (ks 3 60 (by decide) rfl).trans d3
              simp [execOp, go_sem, kc, t58, t60, heq]
              exact ⟨hC, Below.refl _ _, rfl⟩
            · refine stepW_of_u ⟨rfl, fun v W ρ hC kc kf ks ki kd => ?_⟩
              have d4 : v 4 = .bool false := (kdj kd 4 rfl :)
              have t61 : ρ (.tmp 61) = .bool false := (ks 4 61 (by decide) rfl).trans d4
              simp [execOp, go_sem, kc, t61]
              exact ⟨hC, Below.refl _ _, rfl⟩
          intro vLb w1 hb hall
          have hvLb : vLb 5 = .bool false := hall 5 (by decide)
          simp [upto, Act.put]
          rw [hvLb]
          clear hall hvLb
          have S1 := hidS (blk_later S0.out hb)
          have K1 := hidS (blk_later K0.out hb)
          have R1 := hidS (blk_later R0.out hb)
          have O1 := hidS (blk_later O0.out hb)
          have P1 := hidS (P0.out.later hb)
          have Q1 := hidS (Q0.out.later hb)
          have L1 := hidS (L0.out.trans (hb.mono L0.out.size))
          clear L0 hb S0 K0 R0 O0 P0 Q0
          have k0 := blk_cell K1.out 0
          have k1 := blk_cell K1.out 1
          have k2 := blk_cell K1.out 2
          have k3 := blk_cell K1.out 3
          have k4 := blk_cell K1.out 4
          have k5 := blk_cell K1.out 5
          have k6 := blk_cell K1.out 6
          simp at k0 k1 k2 k3 k4 k5 k6
          go_wp2_with fail
          refine (beginAnew_any w.heap.size go (w.heap.size + 1) _ _ _ _ s' key cur' 0 0 0 0 (steps' + 1) w1 S1.out (by rw [hC.out]; exact O1.out) K1.out Q1.out.read hCL.out (by omega) (by omega)).mono ?_
          rintro _ v9 ⟨rfl, hv9⟩
          rw [hv9]
          clear hv9 v9
          have S2 : Hid ((((w1.setCell ⟨w.heap.size + 1, 1, none⟩ (.int .i64 (hdK s' key))).setCell ⟨w.heap.size + 1, 2, none⟩ (.int .i64 0))).heap[w.heap.size]? = some (.cells #[.slice (some ⟨b2, o2, none⟩) s'.slots.length u2, .slice (some ⟨b3, o3, none⟩) s'.heads.length u3] 26)) := hidS (blk_other (B := w.heap.size + 1) (blk_other (B := w.heap.size + 1) S1.out (by omega) 1 (.int .i64 (hdK s' key))) (by omega) 2 (.int .i64 0))
          have K2 : Hid ((((w1.setCell ⟨w.heap.size + 1, 1, none⟩ (.int .i64 (hdK s' key))).setCell ⟨w.heap.size + 1, 2, none⟩ (.int .i64 0))).heap[w.heap.size + 1]? = some (.cells #[.int .i64 key, .int .i64 (hdK s' key), .int .i64 0, .int .i64 0, .int .i64 0, .int .i64 0, .int .i64 (steps' + 1)] 30)) := by
            have := (blk_set (blk_set K1.out 1 (.int .i64 (hdK s' key))) 2 (.int .i64 0))
            exact this
          have R2 : Hid ((((w1.setCell ⟨w.heap.size + 1, 1, none⟩ (.int .i64 (hdK s' key))).setCell ⟨w.heap.size + 1, 2, none⟩ (.int .i64 0))).heap[w.heap.size + 1 + 1]? = some (.cells #[.slice none 0 0, .slice none 0 0, .int .i64 0, .int .i64 0, .int .i64 0, .int .i64 0, .int .i64 0, .int .i64 0, .int .i64 0, .int .i64 0] 32)) := hidS (blk_other (B := w.heap.size + 1) (blk_other (B := w.heap.size + 1) R1.out (by omega) 1 (.int .i64 (hdK s' key))) (by omega) 2 (.int .i64 0))
          have O2 : Hid ((((w1.setCell ⟨w.heap.size + 1, 1, none⟩ (.int .i64 (hdK s' key))).setCell ⟨w.heap.size + 1, 2, none⟩ (.int .i64 0))).heap[go]? = some (.cells #[.int .i64 c] 2)) := hidS (blk_other (B := w.heap.size + 1) (blk_other (B := w.heap.size + 1) O1.out (by omega) 1 (.int .i64 (hdK s' key))) (by omega) 2 (.int .i64 0))
          have P2 : Hid (RowB b2 o2 (flat s'.slots) (((w1.setCell ⟨w.heap.size + 1, 1, none⟩ (.int .i64 (hdK s' key))).setCell ⟨w.heap.size + 1, 2, none⟩ (.int .i64 0)))) := hidS (RowB.other (g := w.heap.size + 1) (k := 2) (v := .int .i64 0) (RowB.other (g := w.heap.size + 1) (k := 1) (v := .int .i64 (hdK s' key)) P1.out (by omega)) (by omega))
          have Q2 : Hid (RowB b3 o3 s'.heads (((w1.setCell ⟨w.heap.size + 1, 1, none⟩ (.int .i64 (hdK s' key))).setCell ⟨w.heap.size + 1, 2, none⟩ (.int .i64 0)))) := hidS (RowB.other (g := w.heap.size + 1) (k := 2) (v := .int .i64 0) (RowB.other (g := w.heap.size + 1) (k := 1) (v := .int .i64 (hdK s' key)) Q1.out (by omega)) (by omega))
          have L2 : Hid (Below w.heap.size w (((w1.setCell ⟨w.heap.size + 1, 1, none⟩ (.int .i64 (hdK s' key))).setCell ⟨w.heap.size + 1, 2, none⟩ (.int .i64 0)))) := hidS (below_at (k := 2) (b := w.heap.size + 1) (v := .int .i64 0) (below_at (k := 1) (b := w.heap.size + 1) (v := .int .i64 (hdK s' key)) L1.out (by omega)) (by omega))
          clear L1 S1 K1 R1 O1 P1 Q1
          generalize ((w1.setCell ⟨w.heap.size + 1, 1, none⟩ (.int .i64 (hdK s' key))).setCell ⟨w.heap.size + 1, 2, none⟩ (.int .i64 0)) = w2 at S2 K2 R2 O2 P2 Q2 L2 ⊢
          clear k0 k1 k2 k3 k4 k5 k6
          have HE : stepP s' ⟨key, cur', 0, 0, 0, 0, steps'⟩ = (s', ⟨key, (hdK s' key), 0, 0, 0, 0, (steps' + 1)⟩) := by unfold stepP; rw [if_pos hc, if_neg (by show ¬ (-1 - cur' = key.tmod s'.heads.length); rw [hmm]; omega)]
          have HF2 := hidS (won_step HW.out HE)
          clear HE
          go_wp2_with fail
          go_step3
          exact ⟨⟨n, (n : Int), s', go, b2, o2, u2, b3, o3, u3, (hdK s' key), 0, 0, 0, 0, (steps' + 1), by kernel_rfl, rfl, by omega, ⟨S2.out, K2.out, R2.out, O2.out, P2.out, Q2.out, by omega, L2.out⟩, HF2⟩, by show 2 * (intOf (.int .i64 (n : Int))).toNat < 2 * (intOf (.int .i64 (n : Int))).toNat + 1; omega⟩
      obtain ⟨N, hcN⟩ : ∃ N : Nat, cur' = (N : Int) := ⟨cur'.toNat, by omega⟩
      subst hcN
      have hN : N < s'.slots.length := by have := pc2 (by omega); omega
      obtain ⟨x, hx⟩ : ∃ x, s'.slots.getD N zeroSlt = x := ⟨_, rfl⟩
      have EX : Hid (slotN s' (N : Int) = x) := by show _ = _; rw [slot_nat]; exact hx
      have hNN : (0 : Int) ≤ (N : Int) ∧ (N : Int) < (s'.slots.length : Int) := by omega
      have hNp : ¬ (N : Int) < 0 := by omega
      have heq : ((N : Int) == -1 - c) = false := beq_eq_false_iff_ne.2 (by have := hC.out; omega)
      have HIS := hidS (fun W => isOf_any key x W)
      go_wp2_with fail
      refine grow_guarded 6 [.is (.pointer (some ⟨w.heap.size + 1, 1, none⟩)), .is (.int .i64 (N : Int)), .is (.int .i64 c), .is (.int .i64 (-1 - c)), .is (.bool false), .is (.bool false)] rfl (by kernel_rfl) (by kernel_rfl) ?stepsLc ?finLc
      case stepsLc =>
        refine ⟨?_, ?_, ?_, ?_, ?_, ?_, trivial⟩
        · refine stepW_of_u ⟨rfl, fun v W ρ hC kc kf ks ki kd => ?_⟩
          have t4 : ρ (.tmp 4) = .pointer (some ⟨w.heap.size + 1, 0, none⟩) := ki 4 (by decide)
          simp [execOp, go_sem, kc, t4]
          exact ⟨hC, Below.refl _ _, rfl⟩
        · refine stepW_of_u ⟨rfl, fun v W ρ hC kc kf ks ki kd => ?_⟩
          have d0 : v 0 = .pointer (some ⟨w.heap.size + 1, 1, none⟩) := (kdj kd 0 rfl :)
          have t57 : ρ (.tmp 57) = .pointer (some ⟨w.heap.size + 1, 1, none⟩) := (ks 0 57 (by decide) rfl).trans d0
          have hg := blk_later K0.out hC
          have c1 := blk_cell hg 1
          simp at c1
          simp [execOp, go_sem, kc, t57, c1]
          exact ⟨hC, Below.refl _ _, rfl⟩
        · refine stepW_of_u ⟨rfl, fun v W ρ hC kc kf ks ki kd => ?_⟩
          have t7 : ρ (.tmp 7) = .pointer (some ⟨go, 0, none⟩) := ki 7 (by decide)
          have hg := blk_later O0.out hC
          have c0 := blk_cell hg 0
          simp at c0
          simp [execOp, go_sem, kc, t7, c0]
          exact ⟨hC, Below.refl _ _, rfl⟩
        · refine stepW_of_u ⟨rfl, fun v W ρ hC kc kf ks ki kd => ?_⟩
          have d2 : v 2 = .int .i64 c := (kdj kd 2 rfl :)
          have t59 : ρ (.tmp 59) = .int .i64 c := (ks 2 59 (by decide) rfl).trans d2
          simp [execOp, go_sem, t59, kf]
          exact Calls.mono (HEO.out W) (fun e x h => ⟨_, h.1, hC.trans (h.2.mono hC.size), h.2, rfl⟩)
        · refine stepW_of_u ⟨rfl, fun v W ρ hC kc kf ks ki kd => ?_⟩
          have d1 : v 1 = .int .i64 (N : Int) := (kdj kd 1 rfl :)
          have t58 : ρ (.tmp 58) = .int .i64 (N : Int) := (ks 1 58 (by decide) rfl).trans d1
          have d3 : v 3 = .int .i64 (-1 - c) := (kdj kd 3 rfl :)
          have t60 : ρ (.tmp 60) = .int .i64 (-1 - c) := (ks 3 60 (by decide) rfl).trans d3
          simp [execOp, go_sem, kc, t58, t60, heq]
          exact ⟨hC, Below.refl _ _, rfl⟩
        · refine stepW_of_u ⟨rfl, fun v W ρ hC kc kf ks ki kd => ?_⟩
          have d4 : v 4 = .bool false := (kdj kd 4 rfl :)
          have t61 : ρ (.tmp 61) = .bool false := (ks 4 61 (by decide) rfl).trans d4
          simp [execOp, go_sem, kc, t61]
          exact ⟨hC, Below.refl _ _, rfl⟩
      intro vLc w1 hb hall
      have hvLc : vLc 5 = .bool false := hall 5 (by decide)
      simp [upto, Act.put]
      rw [hvLc]
      clear hall hvLc
      have S1 := hidS (blk_later S0.out hb)
      have K1 := hidS (blk_later K0.out hb)
      have R1 := hidS (blk_later R0.out hb)
      have O1 := hidS (blk_later O0.out hb)
      have P1 := hidS (P0.out.later hb)
      have Q1 := hidS (Q0.out.later hb)
      have L1 := hidS (L0.out.trans (hb.mono L0.out.size))
      clear L0 hb S0 K0 R0 O0 P0 Q0
      have k0 := blk_cell K1.out 0
      have k1 := blk_cell K1.out 1
      have k2 := blk_cell K1.out 2
      have k3 := blk_cell K1.out 3
      have k4 := blk_cell K1.out 4
      have k5 := blk_cell K1.out 5
      have k6 := blk_cell K1.out 6
      simp at k0 k1 k2 k3 k4 k5 k6
      have s0 := blk_cell S1.out 0
      have s1 := blk_cell S1.out 1
      simp at s0 s1
      obtain ⟨b', o', eS, lS, d0, d1, d2, d3⟩ := P1.out.read.slot hN
      injection eS with eS; injection eS with eS1 eS2
      subst eS1 eS2
      rw [hx] at d0 d1 d2 d3
      go_wp2_with fail
      refine (HIS.out _).mono ?_
      rintro _ w2 ⟨rfl, hb⟩
      clear k0 k1 k2 k3 k4 k5 k6 s0 s1 lS d0 d1 d2 d3
      have S2 := hidS (blk_later S1.out hb)
      have K2 := hidS (blk_later K1.out hb)
      have R2 := hidS (blk_later R1.out hb)
      have O2 := hidS (blk_later O1.out hb)
      have P2 := hidS (P1.out.later hb)
      have Q2 := hidS (Q1.out.later hb)
      have L2 := hidS (L1.out.trans (hb.mono L1.out.size))
      clear L1 hb S1 K1 R1 O1 P1 Q1
      by_cases hq : x.key = key
      · have hqb : (x.key == key) = true := beq_iff_eq.2 hq
        have k0 := blk_cell K2.out 0
        have k1 := blk_cell K2.out 1
        have k2 := blk_cell K2.out 2
        have k3 := blk_cell K2.out 3
        have k4 := blk_cell K2.out 4
        have k5 := blk_cell K2.out 5
        have k6 := blk_cell K2.out 6
        simp at k0 k1 k2 k3 k4 k5 k6
        have fK := blk_free K2.out
        go_wp2_with fail
        clear k0 k1 k2 k3 k4 k5 k6 fK
        have S3 : Hid (((w2.setCell ⟨w.heap.size + 1, 2, none⟩ (.int .i64 1))).heap[w.heap.size]? = some (.cells #[.slice (some ⟨b2, o2, none⟩) s'.slots.length u2, .slice (some ⟨b3, o3, none⟩) s'.heads.length u3] 26)) := hidS (blk_other (B := w.heap.size + 1) S2.out (by omega) 2 (.int .i64 1))
        have K3 : Hid (((w2.setCell ⟨w.heap.size + 1, 2, none⟩ (.int .i64 1))).heap[w.heap.size + 1]? = some (.cells #[.int .i64 key, .int .i64 (N : Int), .int .i64 1, .int .i64 0, .int .i64 0, .int .i64 0, .int .i64 (steps' + 1)] 30)) := by
          have := (blk_set K2.out 2 (.int .i64 1))
          exact this
        have R3 : Hid (((w2.setCell ⟨w.heap.size + 1, 2, none⟩ (.int .i64 1))).heap[w.heap.size + 1 + 1]? = some (.cells #[.slice none 0 0, .slice none 0 0, .int .i64 0, .int .i64 0, .int .i64 0, .int .i64 0, .int .i64 0, .int .i64 0, .int .i64 0, .int .i64 0] 32)) := hidS (blk_other (B := w.heap.size + 1) R2.out (by omega) 2 (.int .i64 1))
        have O3 : Hid (((w2.setCell ⟨w.heap.size + 1, 2, none⟩ (.int .i64 1))).heap[go]? = some (.cells #[.int .i64 c] 2)) := hidS (blk_other (B := w.heap.size + 1) O2.out (by omega) 2 (.int .i64 1))
        have P3 : Hid (RowB b2 o2 (flat s'.slots) ((w2.setCell ⟨w.heap.size + 1, 2, none⟩ (.int .i64 1)))) := hidS (RowB.other (g := w.heap.size + 1) (k := 2) (v := .int .i64 1) P2.out (by omega))
        have Q3 : Hid (RowB b3 o3 s'.heads ((w2.setCell ⟨w.heap.size + 1, 2, none⟩ (.int .i64 1)))) := hidS (RowB.other (g := w.heap.size + 1) (k := 2) (v := .int .i64 1) Q2.out (by omega))
        have L3 : Hid (Below w.heap.size w ((w2.setCell ⟨w.heap.size + 1, 2, none⟩ (.int .i64 1)))) := hidS (below_at (k := 2) (b := w.heap.size + 1) (v := .int .i64 1) L2.out (by omega))
        clear L2 S2 K2 R2 O2 P2 Q2
        generalize (w2.setCell ⟨w.heap.size + 1, 2, none⟩ (.int .i64 1)) = w3 at S3 K3 R3 O3 P3 Q3 L3 ⊢
        have HE : stepP s' ⟨key, (N : Int), 0, 0, 0, 0, steps'⟩ = (s', ⟨key, (N : Int), 1, 0, 0, 0, (steps' + 1)⟩) := by unfold stepP; rw [if_neg (by show ¬ (N : Int) < 0; omega), if_pos rfl, EX.out, if_pos hq]
        have HF2 := hidS (won_step HW.out HE)
        clear HE
        go_wp2_with fail
        go_step3
        exact ⟨⟨n, (n : Int), s', go, b2, o2, u2, b3, o3, u3, (N : Int), 1, 0, 0, 0, (steps' + 1), by kernel_rfl, rfl, by omega, ⟨S3.out, K3.out, R3.out, O3.out, P3.out, Q3.out, by omega, L3.out⟩, HF2⟩, by show 2 * (intOf (.int .i64 (n : Int))).toNat < 2 * (intOf (.int .i64 (n : Int))).toNat + 1; omega⟩
      · have hqb : (x.key == key) = false := beq_eq_false_iff_ne.2 hq
        have k0 := blk_cell K2.out 0
        have k1 := blk_cell K2.out 1
        have k2 := blk_cell K2.out 2
        have k3 := blk_cell K2.out 3
        have k4 := blk_cell K2.out 4
        have k5 := blk_cell K2.out 5
        have k6 := blk_cell K2.out 6
        simp at k0 k1 k2 k3 k4 k5 k6
        have fK := blk_free K2.out
        have s0 := blk_cell S2.out 0
        have s1 := blk_cell S2.out 1
        simp at s0 s1
        obtain ⟨b', o', eS, lS, d0, d1, d2, d3⟩ := P2.out.read.slot hN
        injection eS with eS; injection eS with eS1 eS2
        subst eS1 eS2
        rw [hx] at d3
        go_wp2_with fail
        clear k0 k1 k2 k3 k4 k5 k6 fK s0 s1 lS d0 d1 d2 d3
        have S3 : Hid (((w2.setCell ⟨w.heap.size + 1, 1, none⟩ (.int .i64 x.next))).heap[w.heap.size]? = some (.cells #[.slice (some ⟨b2, o2, none⟩) s'.slots.length u2, .slice (some ⟨b3, o3, none⟩) s'.heads.length u3] 26)) := hidS (blk_other (B := w.heap.size + 1) S2.out (by omega) 1 (.int .i64 x.next))
        have K3 : Hid (((w2.setCell ⟨w.heap.size + 1, 1, none⟩ (.int .i64 x.next))).heap[w.heap.size + 1]? = some (.cells #[.int .i64 key, .int .i64 x.next, .int .i64 0, .int .i64 0, .int .i64 0, .int .i64 0, .int .i64 (steps' + 1)] 30)) := by
          have := (blk_set K2.out 1 (.int .i64 x.next))
          exact this
        have R3 : Hid (((w2.setCell ⟨w.heap.size + 1, 1, none⟩ (.int .i64 x.next))).heap[w.heap.size + 1 + 1]? = some (.cells #[.slice none 0 0, .slice none 0 0, .int .i64 0, .int .i64 0, .int .i64 0, .int .i64 0, .int .i64 0, .int .i64 0, .int .i64 0, .int .i64 0] 32)) := hidS (blk_other (B := w.heap.size + 1) R2.out (by omega) 1 (.int .i64 x.next))
        have O3 : Hid (((w2.setCell ⟨w.heap.size + 1, 1, none⟩ (.int .i64 x.next))).heap[go]? = some (.cells #[.int .i64 c] 2)) := hidS (blk_other (B := w.heap.size + 1) O2.out (by omega) 1 (.int .i64 x.next))
        have P3 : Hid (RowB b2 o2 (flat s'.slots) ((w2.setCell ⟨w.heap.size + 1, 1, none⟩ (.int .i64 x.next)))) := hidS (RowB.other (g := w.heap.size + 1) (k := 1) (v := .int .i64 x.next) P2.out (by omega))
        have Q3 : Hid (RowB b3 o3 s'.heads ((w2.setCell ⟨w.heap.size + 1, 1, none⟩ (.int .i64 x.next)))) := hidS (RowB.other (g := w.heap.size + 1) (k := 1) (v := .int .i64 x.next) Q2.out (by omega))
        have L3 : Hid (Below w.heap.size w ((w2.setCell ⟨w.heap.size + 1, 1, none⟩ (.int .i64 x.next)))) := hidS (below_at (k := 1) (b := w.heap.size + 1) (v := .int .i64 x.next) L2.out (by omega))
        clear L2 S2 K2 R2 O2 P2 Q2
        generalize (w2.setCell ⟨w.heap.size + 1, 1, none⟩ (.int .i64 x.next)) = w3 at S3 K3 R3 O3 P3 Q3 L3 ⊢
        have HE : stepP s' ⟨key, (N : Int), 0, 0, 0, 0, steps'⟩ = (s', ⟨key, x.next, 0, 0, 0, 0, (steps' + 1)⟩) := by unfold stepP; rw [if_neg (by show ¬ (N : Int) < 0; omega), if_pos rfl, EX.out, if_neg hq]
        have HF2 := hidS (won_step HW.out HE)
        clear HE
        go_wp2_with fail
        go_step3
        exact ⟨⟨n, (n : Int), s', go, b2, o2, u2, b3, o3, u3, x.next, 0, 0, 0, 0, (steps' + 1), by kernel_rfl, rfl, by omega, ⟨S3.out, K3.out, R3.out, O3.out, P3.out, Q3.out, by omega, L3.out⟩, HF2⟩, by show 2 * (intOf (.int .i64 (n : Int))).toNat < 2 * (intOf (.int .i64 (n : Int))).toNat + 1; omega⟩
    | 2, _, hJ =>
      refine ⟨_, rfl, ?_⟩
      obtain ⟨n, nn, s', go, b2, o2, u2, b3, o3, u3, cur', steps', hfr, rfl, hn, hM, HW⟩ := hJ
      generalize (fun i => a'.tmps.getD i undef) = f at hfr
      subst hfr
      unfold wonFr
      have S0 := hidS hM.S
      have K0 := hidS hM.K
      have R0 := hidS hM.R
      have O0 := hidS hM.O
      have P0 := hidS hM.P
      have Q0 := hidS hM.Q
      have L0 := hidS hM.L
      obtain ⟨lb1, lb2, lb3, lb4⟩ := hM.lb
      clear hM
      obtain ⟨hr', hw', hg', hrun, hh⟩ := HW.out
      obtain ⟨hk, hp, ho, ht⟩ := wk_parts.1 hw'
      obtain ⟨pc1, pc2, pc3, pc4⟩ := place_cur hp
      simp only at hk hp ho ht pc1 pc2 pc3 pc4
      obtain ⟨_, y1, y2, y3, y4⟩ := right_leads hr'
      have hlen : s'.heads.length = s.heads.length := by rw [hh]
      have hc' : (chN s' key : Int) = c := by rw [← HCE.out]; unfold chN; rw [hlen]
      have hcl' : chN s' key < s'.heads.length := (chN_lt hk.1 y3).1
      have hC := hidS hc'
      have hCL := hidS hcl'
      clear hrun hh hp ho hlen hc' hcl'
      obtain ⟨c0, c1, c2⟩ := step_get hr' hw' rfl
      simp only at c0 c1 c2
      obtain ⟨N, hcN⟩ : ∃ N : Nat, cur' = (N : Int) := ⟨cur'.toNat, by omega⟩
      subst hcN
      have hNp : ¬ (N : Int) < 0 := by omega
      have HG := hidS (fun (aS aH : Option Addr) (a b : Nat) W (h : SlabZ aS aH s' W) => implSlabGet_any aS aH a b s' (N : Int) W h (right_fit hr') (by omega) (by omega))
      by_cases hq : ¬ ((slotN s' (N : Int)).refs = 0 ∨ 1000000 ≤ (slotN s' (N : Int)).refs)
      · have eg := c2.2 hq
        have es : getS s' (N : Int) = refS s' (N : Int) ((slotN s' (N : Int)).refs + 1) := by unfold getS; rw [if_pos eg]
        rw [eg, es] at HG
        generalize getA s' (N : Int) = ga at HG
        have k0 := blk_cell K0.out 0
        have k1 := blk_cell K0.out 1
        have k2 := blk_cell K0.out 2
        have k3 := blk_cell K0.out 3
        have k4 := blk_cell K0.out 4
        have k5 := blk_cell K0.out 5
        have k6 := blk_cell K0.out 6
        simp at k0 k1 k2 k3 k4 k5 k6
        have s0 := blk_cell S0.out 0
        have s1 := blk_cell S0.out 1
        simp at s0 s1
        go_wp2_with fail
        refine (HG.out _ _ _ _ _ ⟨P0.out.read, Q0.out.read⟩).mono ?_
        rintro _ w1 ⟨aS2, v2, aH2, v3, rfl, hO, hb⟩
        have lR := blk_lt R0.out
        clear k0 k1 k2 k3 k4 k5 k6 s0 s1
        have S1 := hidS (blk_later S0.out hb)
        have K1 := hidS (blk_later K0.out hb)
        have R1 := hidS (blk_later R0.out hb)
        have O1 := hidS (blk_later O0.out hb)
        have P1 := hidS (P0.out.later hb)
        have Q1 := hidS (Q0.out.later hb)
        have L1 := hidS (L0.out.trans (hb.mono L0.out.size))
        clear L0 hb S0 K0 R0 O0 P0 Q0
        have hlen : (refS s' (N : Int) ((slotN s' (N : Int)).refs + 1)).slots.length = s'.slots.length := refS_len _ _ _
        have hhd : (refS s' (N : Int) ((slotN s' (N : Int)).refs + 1)).heads = s'.heads := rfl
        obtain ⟨g2, p2, rfl, t1, t2, t3⟩ : ∃ b o, aS2 = some ⟨b, o, none⟩ ∧ w0.heap.size ≤ b ∧ b < w1.heap.size ∧ RowB b o (flat (refS s' (N : Int) ((slotN s' (N : Int)).refs + 1)).slots) w1 := by
          rcases hO.slots with e | h
          · have := flat_len (refS s' (N : Int) ((slotN s' (N : Int)).refs + 1)).slots; rw [e, hlen] at this; simp at this; omega
          · exact h
        obtain ⟨g3, p3, rfl, t4, t5, t6⟩ : ∃ b o, aH2 = some ⟨b, o, none⟩ ∧ w0.heap.size ≤ b ∧ b < w1.heap.size ∧ RowB b o (refS s' (N : Int) ((slotN s' (N : Int)).refs + 1)).heads w1 := by
          rcases hO.heads with e | h
          · rw [hhd] at e; rw [e] at y3; simp at y3
          · exact h
        have hne : g2 ≠ g3 := hO.two _ _ _ _ rfl rfl (fun e => by have h2 := hlen; rw [e] at h2; have h3 : (0 : Nat) = s'.slots.length := h2; omega) (fun e => by rw [hhd] at e; rw [e] at y3; simp at y3)
        generalize hgs : (refS s' (N : Int) ((slotN s' (N : Int)).refs + 1)) = gs at hlen hhd t3 t6 hO ⊢
        have HGS := hidS hgs
        clear hgs hO
        have HL2 := hidS hlen
        have HH2 := hidS hhd
        clear hlen hhd
        have P1b := hidS t3
        have Q1b := hidS t6
        clear t3 t6
        have P21 := P1b
        have Q21 := Q1b
        clear P1b Q1b
        go_upto_region 19 with fail
        have S2 : Hid ((w1.alloc (.cells #[.slice (some ⟨g2, p2, none⟩) gs.slots.length v2, .slice (some ⟨g3, p3, none⟩) gs.heads.length v3, .int .i64 ga, .int .i64 0] 47)).heap[w.heap.size]? = some (.cells #[.slice (some ⟨b2, o2, none⟩) s'.slots.length u2, .slice (some ⟨b3, o3, none⟩) s'.heads.length u3] 26)) := hidS (blk_alloc S1.out (.cells #[.slice (some ⟨g2, p2, none⟩) gs.slots.length v2, .slice (some ⟨g3, p3, none⟩) gs.heads.length v3, .int .i64 ga, .int .i64 0] 47))
        have lS2 := blk_lt S1.out
        have K2 : Hid ((w1.alloc (.cells #[.slice (some ⟨g2, p2, none⟩) gs.slots.length v2, .slice (some ⟨g3, p3, none⟩) gs.heads.length v3, .int .i64 ga, .int .i64 0] 47)).heap[w.heap.size + 1]? = some (.cells #[.int .i64 key, .int .i64 (N : Int), .int .i64 1, .int .i64 0, .int .i64 0, .int .i64 0, .int .i64 (steps' + 1)] 30)) := hidS (blk_alloc K1.out (.cells #[.slice (some ⟨g2, p2, none⟩) gs.slots.length v2, .slice (some ⟨g3, p3, none⟩) gs.heads.length v3, .int .i64 ga, .int .i64 0] 47))
        have lK2 := blk_lt K1.out
        have R2 : Hid ((w1.alloc (.cells #[.slice (some ⟨g2, p2, none⟩) gs.slots.length v2, .slice (some ⟨g3, p3, none⟩) gs.heads.length v3, .int .i64 ga, .int .i64 0] 47)).heap[w.heap.size + 1 + 1]? = some (.cells #[.slice none 0 0, .slice none 0 0, .int .i64 0, .int .i64 0, .int .i64 0, .int .i64 0, .int .i64 0, .int .i64 0, .int .i64 0, .int .i64 0] 32)) := hidS (blk_alloc R1.out (.cells #[.slice (some ⟨g2, p2, none⟩) gs.slots.length v2, .slice (some ⟨g3, p3, none⟩) gs.heads.length v3, .int .i64 ga, .int .i64 0] 47))
        have lR2 := blk_lt R1.out
        have O2 : Hid ((w1.alloc (.cells #[.slice (some ⟨g2, p2, none⟩) gs.slots.length v2, .slice (some ⟨g3, p3, none⟩) gs.heads.length v3, .int .i64 ga, .int .i64 0] 47)).heap[go]? = some (.cells #[.int .i64 c] 2)) := hidS (blk_alloc O1.out (.cells #[.slice (some ⟨g2, p2, none⟩) gs.slots.length v2, .slice (some ⟨g3, p3, none⟩) gs.heads.length v3, .int .i64 ga, .int .i64 0] 47))
        have lO2 := blk_lt O1.out
        have P2 : Hid (RowB b2 o2 (flat s'.slots) (w1.alloc (.cells #[.slice (some ⟨g2, p2, none⟩) gs.slots.length v2, .slice (some ⟨g3, p3, none⟩) gs.heads.length v3, .int .i64 ga, .int .i64 0] 47))) := hidS (P1.out.later ((Below.refl w1.heap.size w1).alloc (Nat.le_refl _) (.cells #[.slice (some ⟨g2, p2, none⟩) gs.slots.length v2, .slice (some ⟨g3, p3, none⟩) gs.heads.length v3, .int .i64 ga, .int .i64 0] 47)))
        have lP2 := P1.out.lt
        have Q2 : Hid (RowB b3 o3 s'.heads (w1.alloc (.cells #[.slice (some ⟨g2, p2, none⟩) gs.slots.length v2, .slice (some ⟨g3, p3, none⟩) gs.heads.length v3, .int .i64 ga, .int .i64 0] 47))) := hidS (Q1.out.later ((Below.refl w1.heap.size w1).alloc (Nat.le_refl _) (.cells #[.slice (some ⟨g2, p2, none⟩) gs.slots.length v2, .slice (some ⟨g3, p3, none⟩) gs.heads.length v3, .int .i64 ga, .int .i64 0] 47)))
        have lQ2 := Q1.out.lt
        have P22 : Hid (RowB g2 p2 (flat gs.slots) (w1.alloc (.cells #[.slice (some ⟨g2, p2, none⟩) gs.slots.length v2, .slice (some ⟨g3, p3, none⟩) gs.heads.length v3, .int .i64 ga, .int .i64 0] 47))) := hidS (P21.out.later ((Below.refl w1.heap.size w1).alloc (Nat.le_refl _) (.cells #[.slice (some ⟨g2, p2, none⟩) gs.slots.length v2, .slice (some ⟨g3, p3, none⟩) gs.heads.length v3, .int .i64 ga, .int .i64 0] 47)))
        have lP22 := P21.out.lt
        have Q22 : Hid (RowB g3 p3 gs.heads (w1.alloc (.cells #[.slice (some ⟨g2, p2, none⟩) gs.slots.length v2, .slice (some ⟨g3, p3, none⟩) gs.heads.length v3, .int .i64 ga, .int .i64 0] 47))) := hidS (Q21.out.later ((Below.refl w1.heap.size w1).alloc (Nat.le_refl _) (.cells #[.slice (some ⟨g2, p2, none⟩) gs.slots.length v2, .slice (some ⟨g3, p3, none⟩) gs.heads.length v3, .int .i64 ga, .int .i64 0] 47)))
        have lQ22 := Q21.out.lt
        have H2 : Hid ((w1.alloc (.cells #[.slice (some ⟨g2, p2, none⟩) gs.slots.length v2, .slice (some ⟨g3, p3, none⟩) gs.heads.length v3, .int .i64 ga, .int .i64 0] 47)).heap[w1.heap.size]? = some (.cells #[.slice (some ⟨g2, p2, none⟩) gs.slots.length v2, .slice (some ⟨g3, p3, none⟩) gs.heads.length v3, .int .i64 ga, .int .i64 0] 47)) := hidS (heap_newG w1 (.cells #[.slice (some ⟨g2, p2, none⟩) gs.slots.length v2, .slice (some ⟨g3, p3, none⟩) gs.heads.length v3, .int .i64 ga, .int .i64 0] 47))
        have L2 : Hid (Below w.heap.size w (w1.alloc (.cells #[.slice (some ⟨g2, p2, none⟩) gs.slots.length v2, .slice (some ⟨g3, p3, none⟩) gs.heads.length v3, .int .i64 ga, .int .i64 0] 47))) := hidS (L1.out.alloc L1.out.size (.cells #[.slice (some ⟨g2, p2, none⟩) gs.slots.length v2, .slice (some ⟨g3, p3, none⟩) gs.heads.length v3, .int .i64 ga, .int .i64 0] 47))
        have ls2 := L1.out.size
        clear L1 S1 K1 R1 O1 P1 Q1 P21 Q21
        generalize w1.alloc (.cells #[.slice (some ⟨g2, p2, none⟩) gs.slots.length v2, .slice (some ⟨g3, p3, none⟩) gs.heads.length v3, .int .i64 ga, .int .i64 0] 47) = w2 at S2 K2 R2 O2 P2 Q2 P22 Q22 H2 L2 ⊢
        generalize w1.heap.size = ho at *
        have gho : w.heap.size + 3 ≤ ho := by omega
        have h0 := blk_cell H2.out 0
        have h1 := blk_cell H2.out 1
        have h2 := blk_cell H2.out 2
        have h3 := blk_cell H2.out 3
        simp at h0 h1 h2 h3
        go_upto_region 20 with fail
        have s0 := blk_cell S2.out 0
        have s1 := blk_cell S2.out 1
        simp at s0 s1
        have fS := blk_free S2.out
        have k0 := blk_cell K2.out 0
        have k1 := blk_cell K2.out 1
        have k2 := blk_cell K2.out 2
        have k3 := blk_cell K2.out 3
        have k4 := blk_cell K2.out 4
        have k5 := blk_cell K2.out 5
        have k6 := blk_cell K2.out 6
        simp at k0 k1 k2 k3 k4 k5 k6
        have fK := blk_free K2.out
        go_wp2_with fail
        clear h0 h1 h2 h3 s0 s1 fS k0 k1 k2 k3 k4 k5 k6 fK
        have S3 : Hid ((((w2.setCell ⟨w.heap.size, 0, none⟩ (.slice (some ⟨g2, p2, none⟩) gs.slots.length v2)).setCell ⟨w.heap.size, 1, none⟩ (.slice (some ⟨g3, p3, none⟩) gs.heads.length v3))).heap[w.heap.size]? = some (.cells #[.slice (some ⟨g2, p2, none⟩) gs.slots.length v2, .slice (some ⟨g3, p3, none⟩) gs.heads.length v3] 26)) := by
          have := (blk_set (blk_set S2.out 0 (.slice (some ⟨g2, p2, none⟩) gs.slots.length v2)) 1 (.slice (some ⟨g3, p3, none⟩) gs.heads.length v3))
          exact this
        have K3 : Hid ((((w2.setCell ⟨w.heap.size, 0, none⟩ (.slice (some ⟨g2, p2, none⟩) gs.slots.length v2)).setCell ⟨w.heap.size, 1, none⟩ (.slice (some ⟨g3, p3, none⟩) gs.heads.length v3))).heap[w.heap.size + 1]? = some (.cells #[.int .i64 key, .int .i64 (N : Int), .int .i64 1, .int .i64 0, .int .i64 0, .int .i64 0, .int .i64 (steps' + 1)] 30)) := hidS (blk_other (B := w.heap.size) (blk_other (B := w.heap.size) K2.out (by omega) 0 (.slice (some ⟨g2, p2, none⟩) gs.slots.length v2)) (by omega) 1 (.slice (some ⟨g3, p3, none⟩) gs.heads.length v3))
        have R3 : Hid ((((w2.setCell ⟨w.heap.size, 0, none⟩ (.slice (some ⟨g2, p2, none⟩) gs.slots.length v2)).setCell ⟨w.heap.size, 1, none⟩ (.slice (some ⟨g3, p3, none⟩) gs.heads.length v3))).heap[w.heap.size + 1 + 1]? = some (.cells #[.slice none 0 0, .slice none 0 0, .int .i64 0, .int .i64 0, .int .i64 0, .int .i64 0, .int .i64 0, .int .i64 0, .int .i64 0, .int .i64 0] 32)) := hidS (blk_other (B := w.heap.size) (blk_other (B := w.heap.size) R2.out (by omega) 0 (.slice (some ⟨g2, p2, none⟩) gs.slots.length v2)) (by omega) 1 (.slice (some ⟨g3, p3, none⟩) gs.heads.length v3))
        have O3 : Hid ((((w2.setCell ⟨w.heap.size, 0, none⟩ (.slice (some ⟨g2, p2, none⟩) gs.slots.length v2)).setCell ⟨w.heap.size, 1, none⟩ (.slice (some ⟨g3, p3, none⟩) gs.heads.length v3))).heap[go]? = some (.cells #[.int .i64 c] 2)) := hidS (blk_other (B := w.heap.size) (blk_other (B := w.heap.size) O2.out (by omega) 0 (.slice (some ⟨g2, p2, none⟩) gs.slots.length v2)) (by omega) 1 (.slice (some ⟨g3, p3, none⟩) gs.heads.length v3))
        have P3 : Hid (RowB b2 o2 (flat s'.slots) (((w2.setCell ⟨w.heap.size, 0, none⟩ (.slice (some ⟨g2, p2, none⟩) gs.slots.length v2)).setCell ⟨w.heap.size, 1, none⟩ (.slice (some ⟨g3, p3, none⟩) gs.heads.length v3)))) := hidS (RowB.other (g := w.heap.size) (k := 1) (v := .slice (some ⟨g3, p3, none⟩) gs.heads.length v3) (RowB.other (g := w.heap.size) (k := 0) (v := .slice (some ⟨g2, p2, none⟩) gs.slots.length v2) P2.out (by omega)) (by omega))
        have Q3 : Hid (RowB b3 o3 s'.heads (((w2.setCell ⟨w.heap.size, 0, none⟩ (.slice (some ⟨g2, p2, none⟩) gs.slots.length v2)).setCell ⟨w.heap.size, 1, none⟩ (.slice (some ⟨g3, p3, none⟩) gs.heads.length v3)))) := hidS (RowB.other (g := w.heap.size) (k := 1) (v := .slice (some ⟨g3, p3, none⟩) gs.heads.length v3) (RowB.other (g := w.heap.size) (k := 0) (v := .slice (some ⟨g2, p2, none⟩) gs.slots.length v2) Q2.out (by omega)) (by omega))
        have P23 : Hid (RowB g2 p2 (flat gs.slots) (((w2.setCell ⟨w.heap.size, 0, none⟩ (.slice (some ⟨g2, p2, none⟩) gs.slots.length v2)).setCell ⟨w.heap.size, 1, none⟩ (.slice (some ⟨g3, p3, none⟩) gs.heads.length v3)))) := hidS (RowB.other (g := w.heap.size) (k := 1) (v := .slice (some ⟨g3, p3, none⟩) gs.heads.length v3) (RowB.other (g := w.heap.size) (k := 0) (v := .slice (some ⟨g2, p2, none⟩) gs.slots.length v2) P22.out (by omega)) (by omega))
        have Q23 : Hid (RowB g3 p3 gs.heads (((w2.setCell ⟨w.heap.size, 0, none⟩ (.slice (some ⟨g2, p2, none⟩) gs.slots.length v2)).setCell ⟨w.heap.size, 1, none⟩ (.slice (some ⟨g3, p3, none⟩) gs.heads.length v3)))) := hidS (RowB.other (g := w.heap.size) (k := 1) (v := .slice (some ⟨g3, p3, none⟩) gs.heads.length v3) (RowB.other (g := w.heap.size) (k := 0) (v := .slice (some ⟨g2, p2, none⟩) gs.slots.length v2) Q22.out (by omega)) (by omega))
        have H3 : Hid ((((w2.setCell ⟨w.heap.size, 0, none⟩ (.slice (some ⟨g2, p2, none⟩) gs.slots.length v2)).setCell ⟨w.heap.size, 1, none⟩ (.slice (some ⟨g3, p3, none⟩) gs.heads.length v3))).heap[ho]? = some (.cells #[.slice (some ⟨g2, p2, none⟩) gs.slots.length v2, .slice (some ⟨g3, p3, none⟩) gs.heads.length v3, .int .i64 ga, .int .i64 0] 47)) := hidS (blk_other (B := w.heap.size) (blk_other (B := w.heap.size) H2.out (by omega) 0 (.slice (some ⟨g2, p2, none⟩) gs.slots.length v2)) (by omega) 1 (.slice (some ⟨g3, p3, none⟩) gs.heads.length v3))
        have L3 : Hid (Below w.heap.size w (((w2.setCell ⟨w.heap.size, 0, none⟩ (.slice (some ⟨g2, p2, none⟩) gs.slots.length v2)).setCell ⟨w.heap.size, 1, none⟩ (.slice (some ⟨g3, p3, none⟩) gs.heads.length v3)))) := hidS (below_at (k := 1) (b := w.heap.size) (v := .slice (some ⟨g3, p3, none⟩) gs.heads.length v3) (below_at (k := 0) (b := w.heap.size) (v := .slice (some ⟨g2, p2, none⟩) gs.slots.length v2) L2.out (by omega)) (by omega))
        clear L2 S2 K2 R2 O2 P2 Q2 P22 Q22 H2
        generalize ((w2.setCell ⟨w.heap.size, 0, none⟩ (.slice (some ⟨g2, p2, none⟩) gs.slots.length v2)).setCell ⟨w.heap.size, 1, none⟩ (.slice (some ⟨g3, p3, none⟩) gs.heads.length v3)) = w3 at S3 K3 R3 O3 P3 Q3 P23 Q23 H3 L3 ⊢
        have S4 : Hid (((w3.setCell ⟨w.heap.size + 1, 2, none⟩ (.int .i64 2))).heap[w.heap.size]? = some (.cells #[.slice (some ⟨g2, p2, none⟩) gs.slots.length v2, .slice (some ⟨g3, p3, none⟩) gs.heads.length v3] 26)) := hidS (blk_other (B := w.heap.size + 1) S3.out (by omega) 2 (.int .i64 2))
        have K4 : Hid (((w3.setCell ⟨w.heap.size + 1, 2, none⟩ (.int .i64 2))).heap[w.heap.size + 1]? = some (.cells #[.int .i64 key, .int .i64 (N : Int), .int .i64 2, .int .i64 0, .int .i64 0, .int .i64 0, .int .i64 (steps' + 1)] 30)) := by
          have := (blk_set K3.out 2 (.int .i64 2))
          exact this
        have R4 : Hid (((w3.setCell ⟨w.heap.size + 1, 2, none⟩ (.int .i64 2))).heap[w.heap.size + 1 + 1]? = some (.cells #[.slice none 0 0, .slice none 0 0, .int .i64 0, .int .i64 0, .int .i64 0, .int .i64 0, .int .i64 0, .int .i64 0, .int .i64 0, .int .i64 0] 32)) := hidS (blk_other (B := w.heap.size + 1) R3.out (by omega) 2 (.int .i64 2))
        have O4 : Hid (((w3.setCell ⟨w.heap.size + 1, 2, none⟩ (.int .i64 2))).heap[go]? = some (.cells #[.int .i64 c] 2)) := hidS (blk_other (B := w.heap.size + 1) O3.out (by omega) 2 (.int .i64 2))
        have P4 : Hid (RowB b2 o2 (flat s'.slots) ((w3.setCell ⟨w.heap.size + 1, 2, none⟩ (.int .i64 2)))) := hidS (RowB.other (g := w.heap.size + 1) (k := 2) (v := .int .i64 2) P3.out (by omega))
        have Q4 : Hid (RowB b3 o3 s'.heads ((w3.setCell ⟨w.heap.size + 1, 2, none⟩ (.int .i64 2)))) := hidS (RowB.other (g := w.heap.size + 1) (k := 2) (v := .int .i64 2) Q3.out (by omega))
        have P24 : Hid (RowB g2 p2 (flat gs.slots) ((w3.setCell ⟨w.heap.size + 1, 2, none⟩ (.int .i64 2)))) := hidS (RowB.other (g := w.heap.size + 1) (k := 2) (v := .int .i64 2) P23.out (by omega))
        have Q24 : Hid (RowB g3 p3 gs.heads ((w3.setCell ⟨w.heap.size + 1, 2, none⟩ (.int .i64 2)))) := hidS (RowB.other (g := w.heap.size + 1) (k := 2) (v := .int .i64 2) Q23.out (by omega))
        have H4 : Hid (((w3.setCell ⟨w.heap.size + 1, 2, none⟩ (.int .i64 2))).heap[ho]? = some (.cells #[.slice (some ⟨g2, p2, none⟩) gs.slots.length v2, .slice (some ⟨g3, p3, none⟩) gs.heads.length v3, .int .i64 ga, .int .i64 0] 47)) := hidS (blk_other (B := w.heap.size + 1) H3.out (by omega) 2 (.int .i64 2))
        have L4 : Hid (Below w.heap.size w ((w3.setCell ⟨w.heap.size + 1, 2, none⟩ (.int .i64 2)))) := hidS (below_at (k := 2) (b := w.heap.size + 1) (v := .int .i64 2) L3.out (by omega))
        clear L3 S3 K3 R3 O3 P3 Q3 P23 Q23 H3
        generalize (w3.setCell ⟨w.heap.size + 1, 2, none⟩ (.int .i64 2)) = w4 at S4 K4 R4 O4 P4 Q4 P24 Q24 H4 L4 ⊢
        clear P4
        clear Q4
        have P4 := P24
        have Q4 := Q24
        clear P24 Q24
        have HE : stepP s' ⟨key, (N : Int), 1, 0, 0, 0, steps'⟩ = (gs, ⟨key, (N : Int), 2, 0, 0, 0, (steps' + 1)⟩) := by unfold stepP; rw [if_neg (by show ¬ (N : Int) < 0; omega), if_neg (by simp), if_pos rfl, if_neg hq, ← HGS.out]
        have HF2 := hidS (won_step HW.out HE)
        clear HE
        go_wp2_with fail
        go_step3
        exact ⟨⟨n, (n : Int), gs, go, g2, p2, v2, g3, p3, v3, (N : Int), 2, 0, 0, 0, (steps' + 1), by kernel_rfl, rfl, by omega, ⟨S4.out, K4.out, R4.out, O4.out, P4.out, Q4.out, by omega, L4.out⟩, HF2⟩, by show 2 * (intOf (.int .i64 (n : Int))).toNat < 2 * (intOf (.int .i64 (n : Int))).toNat + 1; omega⟩
      · have eg : ¬ getC s' (N : Int) = 0 := fun h => hq (c2.1 h)
        have egb : (getC s' (N : Int) == 0) = false := beq_eq_false_iff_ne.2 eg
        generalize getC s' (N : Int) = gc at HG egb
        generalize getA s' (N : Int) = ga at HG
        generalize getS s' (N : Int) = gs at HG
        have k0 := blk_cell K0.out 0
        have k1 := blk_cell K0.out 1
        have k2 := blk_cell K0.out 2
        have k3 := blk_cell K0.out 3
        have k4 := blk_cell K0.out 4
        have k5 := blk_cell K0.out 5
        have k6 := blk_cell K0.out 6
        simp at k0 k1 k2 k3 k4 k5 k6
        have s0 := blk_cell S0.out 0
        have s1 := blk_cell S0.out 1
        simp at s0 s1
        go_wp2_with fail
        refine (HG.out _ _ _ _ _ ⟨P0.out.read, Q0.out.read⟩).mono ?_
        rintro _ w1 ⟨aS2, v2, aH2, v3, rfl, hO, hb⟩
        have lR := blk_lt R0.out
        clear k0 k1 k2 k3 k4 k5 k6 s0 s1
        have S1 := hidS (blk_later S0.out hb)
        have K1 := hidS (blk_later K0.out hb)
        have R1 := hidS (blk_later R0.out hb)
        have O1 := hidS (blk_later O0.out hb)
        have P1 := hidS (P0.out.later hb)
        have Q1 := hidS (Q0.out.later hb)
        have L1 := hidS (L0.out.trans (hb.mono L0.out.size))
        clear L0 hb S0 K0 R0 O0 P0 Q0
        clear hO
        go_upto_region 19 with fail
        have S2 : Hid ((w1.alloc (.cells #[.slice aS2 gs.slots.length v2, .slice aH2 gs.heads.length v3, .int .i64 ga, .int .i64 gc] 47)).heap[w.heap.size]? = some (.cells #[.slice (some ⟨b2, o2, none⟩) s'.slots.length u2, .slice (some ⟨b3, o3, none⟩) s'.heads.length u3] 26)) := hidS (blk_alloc S1.out (.cells #[.slice aS2 gs.slots.length v2, .slice aH2 gs.heads.length v3, .int .i64 ga, .int .i64 gc] 47))
        have lS2 := blk_lt S1.out
        have K2 : Hid ((w1.alloc (.cells #[.slice aS2 gs.slots.length v2, .slice aH2 gs.heads.length v3, .int .i64 ga, .int .i64 gc] 47)).heap[w.heap.size + 1]? = some (.cells #[.int .i64 key, .int .i64 (N : Int), .int .i64 1, .int .i64 0, .int .i64 0, .int .i64 0, .int .i64 (steps' + 1)] 30)) := hidS (blk_alloc K1.out (.cells #[.slice aS2 gs.slots.length v2, .slice aH2 gs.heads.length v3, .int .i64 ga, .int .i64 gc] 47))
        have lK2 := blk_lt K1.out
        have R2 : Hid ((w1.alloc (.cells #[.slice aS2 gs.slots.length v2, .slice aH2 gs.heads.length v3, .int .i64 ga, .int .i64 gc] 47)).heap[w.heap.size + 1 + 1]? = some (.cells #[.slice none 0 0, .slice none 0 0, .int .i64 0, .int .i64 0, .int .i64 0, .int .i64 0, .int .i64 0, .int .i64 0, .int .i64 0, .int .i64 0] 32)) := hidS (blk_alloc R1.out (.cells #[.slice aS2 gs.slots.length v2, .slice aH2 gs.heads.length v3, .int .i64 ga, .int .i64 gc] 47))
        have lR2 := blk_lt R1.out
        have O2 : Hid ((w1.alloc (.cells #[.slice aS2 gs.slots.length v2, .slice aH2 gs.heads.length v3, .int .i64 ga, .int .i64 gc] 47)).heap[go]? = some (.cells #[.int .i64 c] 2)) := hidS (blk_alloc O1.out (.cells #[.slice aS2 gs.slots.length v2, .slice aH2 gs.heads.length v3, .int .i64 ga, .int .i64 gc] 47))
        have lO2 := blk_lt O1.out
        have P2 : Hid (RowB b2 o2 (flat s'.slots) (w1.alloc (.cells #[.slice aS2 gs.slots.length v2, .slice aH2 gs.heads.length v3, .int .i64 ga, .int .i64 gc] 47))) := hidS (P1.out.later ((Below.refl w1.heap.size w1).alloc (Nat.le_refl _) (.cells #[.slice aS2 gs.slots.length v2, .slice aH2 gs.heads.length v3, .int .i64 ga, .int .i64 gc] 47)))
        have lP2 := P1.out.lt
        have Q2 : Hid (RowB b3 o3 s'.heads (w1.alloc (.cells #[.slice aS2 gs.slots.length v2, .slice aH2 gs.heads.length v3, .int .i64 ga, .int .i64 gc] 47))) := hidS (Q1.out.later ((Below.refl w1.heap.size w1).alloc (Nat.le_refl _) (.cells #[.slice aS2 gs.slots.length v2, .slice aH2 gs.heads.length v3, .int .i64 ga, .int .i64 gc] 47)))
        have lQ2 := Q1.out.lt
        have H2 : Hid ((w1.alloc (.cells #[.slice aS2 gs.slots.length v2, .slice aH2 gs.heads.length v3, .int .i64 ga, .int .i64 gc] 47)).heap[w1.heap.size]? = some (.cells #[.slice aS2 gs.slots.length v2, .slice aH2 gs.heads.length v3, .int .i64 ga, .int .i64 gc] 47)) := hidS (heap_newG w1 (.cells #[.slice aS2 gs.slots.length v2, .slice aH2 gs.heads.length v3, .int .i64 ga, .int .i64 gc] 47))
        have L2 : Hid (Below w.heap.size w (w1.alloc (.cells #[.slice aS2 gs.slots.length v2, .slice aH2 gs.heads.length v3, .int .i64 ga, .int .i64 gc] 47))) := hidS (L1.out.alloc L1.out.size (.cells #[.slice aS2 gs.slots.length v2, .slice aH2 gs.heads.length v3, .int .i64 ga, .int .i64 gc] 47))
        have ls2 := L1.out.size
        clear L1 S1 K1 R1 O1 P1 Q1
        generalize w1.alloc (.cells #[.slice aS2 gs.slots.length v2, .slice aH2 gs.heads.length v3, .int .i64 ga, .int .i64 gc] 47) = w2 at S2 K2 R2 O2 P2 Q2 H2 L2 ⊢
        generalize w1.heap.size = ho at *
        have gho : w.heap.size + 3 ≤ ho := by omega
        have h0 := blk_cell H2.out 0
        have h1 := blk_cell H2.out 1
        have h2 := blk_cell H2.out 2
        have h3 := blk_cell H2.out 3
        simp at h0 h1 h2 h3
        have k0 := blk_cell K2.out 0
        have k1 := blk_cell K2.out 1
        have k2 := blk_cell K2.out 2
        have k3 := blk_cell K2.out 3
        have k4 := blk_cell K2.out 4
        have k5 := blk_cell K2.out 5
        have k6 := blk_cell K2.out 6
        simp at k0 k1 k2 k3 k4 k5 k6
        go_wp2_with fail
        refine (beginAnew_any w.heap.size go (w.heap.size + 1) _ _ _ _ s' key (N : Int) 1 0 0 0 (steps' + 1) w2 S2.out (by rw [hC.out]; exact O2.out) K2.out Q2.out.read hCL.out (by omega) (by omega)).mono ?_
        rintro _ v9 ⟨rfl, hv9⟩
        rw [hv9]
        clear hv9 v9
        have S3 : Hid ((((w2.setCell ⟨w.heap.size + 1, 1, none⟩ (.int .i64 (hdK s' key))).setCell ⟨w.heap.size + 1, 2, none⟩ (.int .i64 0))).heap[w.heap.size]? = some (.cells #[.slice (some ⟨b2, o2, none⟩) s'.slots.length u2, .slice (some ⟨b3, o3, none⟩) s'.heads.length u3] 26)) := hidS (blk_other (B := w.heap.size + 1) (blk_other (B := w.heap.size + 1) S2.out (by omega) 1 (.int .i64 (hdK s' key))) (by omega) 2 (.int .i64 0))
        have K3 : Hid ((((w2.setCell ⟨w.heap.size + 1, 1, none⟩ (.int .i64 (hdK s' key))).setCell ⟨w.heap.size + 1, 2, none⟩ (.int .i64 0))).heap[w.heap.size + 1]? = some (.cells #[.int .i64 key, .int .i64 (hdK s' key), .int .i64 0, .int .i64 0, .int .i64 0, .int .i64 0, .int .i64 (steps' + 1)] 30)) := by
          have := (blk_set (blk_set K2.out 1 (.int .i64 (hdK s' key))) 2 (.int .i64 0))
          exact this
        have R3 : Hid ((((w2.setCell ⟨w.heap.size + 1, 1, none⟩ (.int .i64 (hdK s' key))).setCell ⟨w.heap.size + 1, 2, none⟩ (.int .i64 0))).heap[w.heap.size + 1 + 1]? = some (.cells #[.slice none 0 0, .slice none 0 0, .int .i64 0, .int .i64 0, .int .i64 0, .int .i64 0, .int .i64 0, .int .i64 0, .int .i64 0, .int .i64 0] 32)) := hidS (blk_other (B := w.heap.size + 1) (blk_other (B := w.heap.size + 1) R2.out (by omega) 1 (.int .i64 (hdK s' key))) (by omega) 2 (.int .i64 0))
        have O3 : Hid ((((w2.setCell ⟨w.heap.size + 1, 1, none⟩ (.int .i64 (hdK s' key))).setCell ⟨w.heap.size + 1, 2, none⟩ (.int .i64 0))).heap[go]? = some (.cells #[.int .i64 c] 2)) := hidS (blk_other (B := w.heap.size + 1) (blk_other (B := w.heap.size + 1) O2.out (by omega) 1 (.int .i64 (hdK s' key))) (by omega) 2 (.int .i64 0))
        have P3 : Hid (RowB b2 o2 (flat s'.slots) (((w2.setCell ⟨w.heap.size + 1, 1, none⟩ (.int .i64 (hdK s' key))).setCell ⟨w.heap.size + 1, 2, none⟩ (.int .i64 0)))) := hidS (RowB.other (g := w.heap.size + 1) (k := 2) (v := .int .i64 0) (RowB.other (g := w.heap.size + 1) (k := 1) (v := .int .i64 (hdK s' key)) P2.out (by omega)) (by omega))
        have Q3 : Hid (RowB b3 o3 s'.heads (((w2.setCell ⟨w.heap.size + 1, 1, none⟩ (.int .i64 (hdK s' key))).setCell ⟨w.heap.size + 1, 2, none⟩ (.int .i64 0)))) := hidS (RowB.other (g := w.heap.size + 1) (k := 2) (v := .int .i64 0) (RowB.other (g := w.heap.size + 1) (k := 1) (v := .int .i64 (hdK s' key)) Q2.out (by omega)) (by omega))
        have H3 : Hid ((((w2.setCell ⟨w.heap.size + 1, 1, none⟩ (.int .i64 (hdK s' key))).setCell ⟨w.heap.size + 1, 2, none⟩ (.int .i64 0))).heap[ho]? = some (.cells #[.slice aS2 gs.slots.length v2, .slice aH2 gs.heads.length v3, .int .i64 ga, .int .i64 gc] 47)) := hidS (blk_other (B := w.heap.size + 1) (blk_other (B := w.heap.size + 1) H2.out (by omega) 1 (.int .i64 (hdK s' key))) (by omega) 2 (.int .i64 0))
        have L3 : Hid (Below w.heap.size w (((w2.setCell ⟨w.heap.size + 1, 1, none⟩ (.int .i64 (hdK s' key))).setCell ⟨w.heap.size + 1, 2, none⟩ (.int .i64 0)))) := hidS (below_at (k := 2) (b := w.heap.size + 1) (v := .int .i64 0) (below_at (k := 1) (b := w.heap.size + 1) (v := .int .i64 (hdK s' key)) L2.out (by omega)) (by omega))
        clear L2 S2 K2 R2 O2 P2 Q2 H2
        generalize ((w2.setCell ⟨w.heap.size + 1, 1, none⟩ (.int .i64 (hdK s' key))).setCell ⟨w.heap.size + 1, 2, none⟩ (.int .i64 0)) = w3 at S3 K3 R3 O3 P3 Q3 H3 L3 ⊢
        have HE : stepP s' ⟨key, (N : Int), 1, 0, 0, 0, steps'⟩ = (s', ⟨key, (hdK s' key), 0, 0, 0, 0, (steps' + 1)⟩) := by unfold stepP; rw [if_neg (by show ¬ (N : Int) < 0; omega), if_neg (by simp), if_pos rfl, if_pos (Classical.not_not.1 hq)]
        have HF2 := hidS (won_step HW.out HE)
        clear HE
        go_wp2_with fail
        go_step3
        exact ⟨⟨n, (n : Int), s', go, b2, o2, u2, b3, o3, u3, (hdK s' key), 0, 0, 0, 0, (steps' + 1), by kernel_rfl, rfl, by omega, ⟨S3.out, K3.out, R3.out, O3.out, P3.out, Q3.out, by omega, L3.out⟩, HF2⟩, by show 2 * (intOf (.int .i64 (n : Int))).toNat < 2 * (intOf (.int .i64 (n : Int))).toNat + 1; omega⟩
    | 3, _, hJ =>
      refine ⟨_, rfl, ?_⟩
      obtain ⟨n, nn, s', go, b2, o2, u2, b3, o3, u3, cur', steps', hfr, rfl, hn, hM, HW⟩ := hJ
      generalize (fun i => a'.tmps.getD i undef) = f at hfr
      subst hfr
      unfold wonFr
      have S0 := hidS hM.S
      have K0 := hidS hM.K
      have R0 := hidS hM.R
      have O0 := hidS hM.O
      have P0 := hidS hM.P
      have Q0 := hidS hM.Q
      have L0 := hidS hM.L
      obtain ⟨lb1, lb2, lb3, lb4⟩ := hM.lb
      clear hM
      obtain ⟨hr', hw', hg', hrun, hh⟩ := HW.out
      obtain ⟨hk, hp, ho, ht⟩ := wk_parts.1 hw'
      obtain ⟨pc1, pc2, pc3, pc4⟩ := place_cur hp
      simp only at hk hp ho ht pc1 pc2 pc3 pc4
      obtain ⟨_, y1, y2, y3, y4⟩ := right_leads hr'
      have hlen : s'.heads.length = s.heads.length := by rw [hh]
      have hc' : (chN s' key : Int) = c := by rw [← HCE.out]; unfold chN; rw [hlen]
      have hcl' : chN s' key < s'.heads.length := (chN_lt hk.1 y3).1
      have hC := hidS hc'
      have hCL := hidS hcl'
      clear hrun hh hp ho hlen hc' hcl'
      obtain ⟨c0, c1, c2⟩ := step_put hr' hw' rfl
      simp only at c0 c1 c2
      obtain ⟨N, hcN⟩ : ∃ N : Nat, cur' = (N : Int) := ⟨cur'.toNat, by omega⟩
      subst hcN
      have hN : N < s'.slots.length := by omega
      obtain ⟨x, hx⟩ : ∃ x, s'.slots.getD N zeroSlt = x := ⟨_, rfl⟩
      have EX : Hid (slotN s' (N : Int) = x) := by show _ = _; rw [slot_nat]; exact hx
      have hNN : (0 : Int) ≤ (N : Int) ∧ (N : Int) < (s'.slots.length : Int) := by omega
      have HIS := hidS (fun W => isOf_any key x W)
      have es : putS s' (N : Int) = refS s' (N : Int) (x.refs - 1) := by unfold putS; rw [if_pos c2, EX.out]
      have HPT := hidS (fun (aS aH : Option Addr) (a b : Nat) W (h : SlabZ aS aH s' W) => implSlabPut_any aS aH a b s' (N : Int) W h (right_fit hr') (by omega) (by omega))
      rw [c2, es] at HPT
      generalize putA s' (N : Int) = ga at HPT
      have k0 := blk_cell K0.out 0
      have k1 := blk_cell K0.out 1
      have k2 := blk_cell K0.out 2
      have k3 := blk_cell K0.out 3
      have k4 := blk_cell K0.out 4
      have k5 := blk_cell K0.out 5
      have k6 := blk_cell K0.out 6
      simp at k0 k1 k2 k3 k4 k5 k6
      have s0 := blk_cell S0.out 0
      have s1 := blk_cell S0.out 1
      simp at s0 s1
      obtain ⟨b', o', eS, lS, d0, d1, d2, d3⟩ := P0.out.read.slot hN
      injection eS with eS; injection eS with eS1 eS2
      subst eS1 eS2
      rw [hx] at d0 d1 d2 d3
      have lR := blk_lt R0.out
      go_upto_region 23 with fail
      clear k0 k1 k2 k3 k4 k5 k6 s0 s1 lS d0 d1 d2 d3
      have S1 : Hid ((w0.alloc (.cells #[.int .i64 x.key, .int .i64 x.gen, .int .i64 x.refs, .int .i64 x.next] 45)).heap[w.heap.size]? = some (.cells #[.slice (some ⟨b2, o2, none⟩) s'.slots.length u2, .slice (some ⟨b3, o3, none⟩) s'.heads.length u3] 26)) := hidS (blk_alloc S0.out (.cells #[.int .i64 x.key, .int .i64 x.gen, .int .i64 x.refs, .int .i64 x.next] 45))
      have lS1 := blk_lt S0.out
      have K1 : Hid ((w0.alloc (.cells #[.int .i64 x.key, .int .i64 x.gen, .int .i64 x.refs, .int .i64 x.next] 45)).heap[w.heap.size + 1]? = some (.cells #[.int .i64 key, .int .i64 (N : Int), .int .i64 2, .int .i64 0, .int .i64 0, .int .i64 0, .int .i64 (steps' + 1)] 30)) := hidS (blk_alloc K0.out (.cells #[.int .i64 x.key, .int .i64 x.gen, .int .i64 x.refs, .int .i64 x.next] 45))
      have lK1 := blk_lt K0.out
      have R1 : Hid ((w0.alloc (.cells #[.int .i64 x.key, .int .i64 x.gen, .int .i64 x.refs, .int .i64 x.next] 45)).heap[w.heap.size + 1 + 1]? = some (.cells #[.slice none 0 0, .slice none 0 0, .int .i64 0, .int .i64 0, .int .i64 0, .int .i64 0, .int .i64 0, .int .i64 0, .int .i64 0, .int .i64 0] 32)) := hidS (blk_alloc R0.out (.cells #[.int .i64 x.key, .int .i64 x.gen, .int .i64 x.refs, .int .i64 x.next] 45))
      have lR1 := blk_lt R0.out
      have O1 : Hid ((w0.alloc (.cells #[.int .i64 x.key, .int .i64 x.gen, .int .i64 x.refs, .int .i64 x.next] 45)).heap[go]? = some (.cells #[.int .i64 c] 2)) := hidS (blk_alloc O0.out (.cells #[.int .i64 x.key, .int .i64 x.gen, .int .i64 x.refs, .int .i64 x.next] 45))
      have lO1 := blk_lt O0.out
      have P1 : Hid (RowB b2 o2 (flat s'.slots) (w0.alloc (.cells #[.int .i64 x.key, .int .i64 x.gen, .int .i64 x.refs, .int .i64 x.next] 45))) := hidS (P0.out.later ((Below.refl w0.heap.size w0).alloc (Nat.le_refl _) (.cells #[.int .i64 x.key, .int .i64 x.gen, .int .i64 x.refs, .int .i64 x.next] 45)))
      have lP1 := P0.out.lt
      have Q1 : Hid (RowB b3 o3 s'.heads (w0.alloc (.cells #[.int .i64 x.key, .int .i64 x.gen, .int .i64 x.refs, .int .i64 x.next] 45))) := hidS (Q0.out.later ((Below.refl w0.heap.size w0).alloc (Nat.le_refl _) (.cells #[.int .i64 x.key, .int .i64 x.gen, .int .i64 x.refs, .int .i64 x.next] 45)))
      have lQ1 := Q0.out.lt
      have X1 : Hid ((w0.alloc (.cells #[.int .i64 x.key, .int .i64 x.gen, .int .i64 x.refs, .int .i64 x.next] 45)).heap[w0.heap.size]? = some (.cells #[.int .i64 x.key, .int .i64 x.gen, .int .i64 x.refs, .int .i64 x.next] 45)) := hidS (heap_newG w0 (.cells #[.int .i64 x.key, .int .i64 x.gen, .int .i64 x.refs, .int .i64 x.next] 45))
      have L1 : Hid (Below w.heap.size w (w0.alloc (.cells #[.int .i64 x.key, .int .i64 x.gen, .int .i64 x.refs, .int .i64 x.next] 45))) := hidS (L0.out.alloc L0.out.size (.cells #[.int .i64 x.key, .int .i64 x.gen, .int .i64 x.refs, .int .i64 x.next] 45))
      have ls1 := L0.out.size
      clear L0 S0 K0 R0 O0 P0 Q0
      generalize w0.alloc (.cells #[.int .i64 x.key, .int .i64 x.gen, .int .i64 x.refs, .int .i64 x.next] 45) = w1 at S1 K1 R1 O1 P1 Q1 X1 L1 ⊢
      generalize w0.heap.size = xo at *
      have hxo : w.heap.size + 3 ≤ xo := by omega
      have x0 := blk_cell X1.out 0
      have x1 := blk_cell X1.out 1
      have x2 := blk_cell X1.out 2
      have x3 := blk_cell X1.out 3
      simp at x0 x1 x2 x3
      go_wp2_with fail
      refine (HIS.out _).mono ?_
      rintro _ w2 ⟨rfl, hb⟩
      clear x0 x1 x2 x3
      have S2 := hidS (blk_later S1.out hb)
      have K2 := hidS (blk_later K1.out hb)
      have R2 := hidS (blk_later R1.out hb)
      have O2 := hidS (blk_later O1.out hb)
      have P2 := hidS (P1.out.later hb)
      have Q2 := hidS (Q1.out.later hb)
      have X2 := hidS (blk_later X1.out hb)
      have L2 := hidS (L1.out.trans (hb.mono L1.out.size))
      clear L1 hb S1 K1 R1 O1 P1 Q1 X1
      by_cases hq : x.key = key
      · have hqb : (x.key == key) = true := beq_iff_eq.2 hq
        have k0 := blk_cell K2.out 0
        have k1 := blk_cell K2.out 1
        have k2 := blk_cell K2.out 2
        have k3 := blk_cell K2.out 3
        have k4 := blk_cell K2.out 4
        have k5 := blk_cell K2.out 5
        have k6 := blk_cell K2.out 6
        simp at k0 k1 k2 k3 k4 k5 k6
        have fK := blk_free K2.out
        have x0 := blk_cell X2.out 0
        have x1 := blk_cell X2.out 1
        have x2 := blk_cell X2.out 2
        have x3 := blk_cell X2.out 3
        simp at x0 x1 x2 x3
        go_wp2_with fail
        go_region
        clear k0 k1 k2 k3 k4 k5 k6 fK x0 x1 x2 x3
        have S3 : Hid (((((w2.setCell ⟨w.heap.size + 1, 3, none⟩ (.int .i64 1)).setCell ⟨w.heap.size + 1, 4, none⟩ (.int .i64 (N : Int))).setCell ⟨w.heap.size + 1, 5, none⟩ (.int .i64 x.gen)).drew).heap[w.heap.size]? = some (.cells #[.slice (some ⟨b2, o2, none⟩) s'.slots.length u2, .slice (some ⟨b3, o3, none⟩) s'.heads.length u3] 26)) := hidS (blk_other (B := w.heap.size + 1) (blk_other (B := w.heap.size + 1) (blk_other (B := w.heap.size + 1) S2.out (by omega) 3 (.int .i64 1)) (by omega) 4 (.int .i64 (N : Int))) (by omega) 5 (.int .i64 x.gen))
        have K3 : Hid (((((w2.setCell ⟨w.heap.size + 1, 3, none⟩ (.int .i64 1)).setCell ⟨w.heap.size + 1, 4, none⟩ (.int .i64 (N : Int))).setCell ⟨w.heap.size + 1, 5, none⟩ (.int .i64 x.gen)).drew).heap[w.heap.size + 1]? = some (.cells #[.int .i64 key, .int .i64 (N : Int), .int .i64 2, .int .i64 1, .int .i64 (N : Int), .int .i64 x.gen, .int .i64 (steps' + 1)] 30)) := by
          have := (blk_set (blk_set (blk_set K2.out 3 (.int .i64 1)) 4 (.int .i64 (N : Int))) 5 (.int .i64 x.gen))
          exact this
        have R3 : Hid (((((w2.setCell ⟨w.heap.size + 1, 3, none⟩ (.int .i64 1)).setCell ⟨w.heap.size + 1, 4, none⟩ (.int .i64 (N : Int))).setCell ⟨w.heap.size + 1, 5, none⟩ (.int .i64 x.gen)).drew).heap[w.heap.size + 1 + 1]? = some (.cells #[.slice none 0 0, .slice none 0 0, .int .i64 0, .int .i64 0, .int .i64 0, .int .i64 0, .int .i64 0, .int .i64 0, .int .i64 0, .int .i64 0] 32)) := hidS (blk_other (B := w.heap.size + 1) (blk_other (B := w.heap.size + 1) (blk_other (B := w.heap.size + 1) R2.out (by omega) 3 (.int .i64 1)) (by omega) 4 (.int .i64 (N : Int))) (by omega) 5 (.int .i64 x.gen))
        have O3 : Hid (((((w2.setCell ⟨w.heap.size + 1, 3, none⟩ (.int .i64 1)).setCell ⟨w.heap.size + 1, 4, none⟩ (.int .i64 (N : Int))).setCell ⟨w.heap.size + 1, 5, none⟩ (.int .i64 x.gen)).drew).heap[go]? = some (.cells #[.int .i64 c] 2)) := hidS (blk_other (B := w.heap.size + 1) (blk_other (B := w.heap.size + 1) (blk_other (B := w.heap.size + 1) O2.out (by omega) 3 (.int .i64 1)) (by omega) 4 (.int .i64 (N : Int))) (by omega) 5 (.int .i64 x.gen))
        have P3 : Hid (RowB b2 o2 (flat s'.slots) ((((w2.setCell ⟨w.heap.size + 1, 3, none⟩ (.int .i64 1)).setCell ⟨w.heap.size + 1, 4, none⟩ (.int .i64 (N : Int))).setCell ⟨w.heap.size + 1, 5, none⟩ (.int .i64 x.gen)).drew)) := hidS (RowB.other (g := w.heap.size + 1) (k := 5) (v := .int .i64 x.gen) (RowB.other (g := w.heap.size + 1) (k := 4) (v := .int .i64 (N : Int)) (RowB.other (g := w.heap.size + 1) (k := 3) (v := .int .i64 1) P2.out (by omega)) (by omega)) (by omega))
        have Q3 : Hid (RowB b3 o3 s'.heads ((((w2.setCell ⟨w.heap.size + 1, 3, none⟩ (.int .i64 1)).setCell ⟨w.heap.size + 1, 4, none⟩ (.int .i64 (N : Int))).setCell ⟨w.heap.size + 1, 5, none⟩ (.int .i64 x.gen)).drew)) := hidS (RowB.other (g := w.heap.size + 1) (k := 5) (v := .int .i64 x.gen) (RowB.other (g := w.heap.size + 1) (k := 4) (v := .int .i64 (N : Int)) (RowB.other (g := w.heap.size + 1) (k := 3) (v := .int .i64 1) Q2.out (by omega)) (by omega)) (by omega))
        have X3 : Hid (((((w2.setCell ⟨w.heap.size + 1, 3, none⟩ (.int .i64 1)).setCell ⟨w.heap.size + 1, 4, none⟩ (.int .i64 (N : Int))).setCell ⟨w.heap.size + 1, 5, none⟩ (.int .i64 x.gen)).drew).heap[xo]? = some (.cells #[.int .i64 x.key, .int .i64 x.gen, .int .i64 x.refs, .int .i64 x.next] 45)) := hidS (blk_other (B := w.heap.size + 1) (blk_other (B := w.heap.size + 1) (blk_other (B := w.heap.size + 1) X2.out (by omega) 3 (.int .i64 1)) (by omega) 4 (.int .i64 (N : Int))) (by omega) 5 (.int .i64 x.gen))
        have L3 : Hid (Below w.heap.size w ((((w2.setCell ⟨w.heap.size + 1, 3, none⟩ (.int .i64 1)).setCell ⟨w.heap.size + 1, 4, none⟩ (.int .i64 (N : Int))).setCell ⟨w.heap.size + 1, 5, none⟩ (.int .i64 x.gen)).drew)) := hidS (Below.drew (below_at (k := 5) (b := w.heap.size + 1) (v := .int .i64 x.gen) (below_at (k := 4) (b := w.heap.size + 1) (v := .int .i64 (N : Int)) (below_at (k := 3) (b := w.heap.size + 1) (v := .int .i64 1) L2.out (by omega)) (by omega)) (by omega)))
        clear L2 S2 K2 R2 O2 P2 Q2 X2
        generalize (((w2.setCell ⟨w.heap.size + 1, 3, none⟩ (.int .i64 1)).setCell ⟨w.heap.size + 1, 4, none⟩ (.int .i64 (N : Int))).setCell ⟨w.heap.size + 1, 5, none⟩ (.int .i64 x.gen)).drew = w3 at S3 K3 R3 O3 P3 Q3 X3 L3 ⊢
        have HE : stepP s' ⟨key, (N : Int), 2, 0, 0, 0, steps'⟩ = (s', ⟨key, (N : Int), 2, 1, (N : Int), x.gen, (steps' + 1)⟩) := by unfold stepP; rw [if_neg (by show ¬ (N : Int) < 0; omega), if_neg (by simp), if_neg (by simp), EX.out, if_pos hq]
        have HF2 := hidS (won_step HW.out HE)
        clear HE
        go_wp2_with fail
        go_step3
        exact ⟨⟨n, (n : Int), s', go, b2, o2, u2, b3, o3, u3, (N : Int), 2, 1, (N : Int), x.gen, (steps' + 1), by kernel_rfl, rfl, by omega, ⟨S3.out, K3.out, R3.out, O3.out, P3.out, Q3.out, by omega, L3.out⟩, HF2⟩, by show 2 * (intOf (.int .i64 (n : Int))).toNat < 2 * (intOf (.int .i64 (n : Int))).toNat + 1; omega⟩
      · have hqb : (x.key == key) = false := beq_eq_false_iff_ne.2 hq
        have k0 := blk_cell K2.out 0
        have k1 := blk_cell K2.out 1
        have k2 := blk_cell K2.out 2
        have k3 := blk_cell K2.out 3
        have k4 := blk_cell K2.out 4
        have k5 := blk_cell K2.out 5
        have k6 := blk_cell K2.out 6
        simp at k0 k1 k2 k3 k4 k5 k6
        have s0 := blk_cell S2.out 0
        have s1 := blk_cell S2.out 1
        simp at s0 s1
        go_wp2_with fail
        refine (HPT.out _ _ _ _ _ ⟨P2.out.read, Q2.out.read⟩).mono ?_
        rintro _ w3 ⟨aS2, v2, aH2, v3, rfl, hO, hb⟩
        have lR := blk_lt R2.out
        clear k0 k1 k2 k3 k4 k5 k6 s0 s1
        have S3 := hidS (blk_later S2.out hb)
        have K3 := hidS (blk_later K2.out hb)
        have R3 := hidS (blk_later R2.out hb)
        have O3 := hidS (blk_later O2.out hb)
        have P3 := hidS (P2.out.later hb)
        have Q3 := hidS (Q2.out.later hb)
        have X3 := hidS (blk_later X2.out hb)
        have L3 := hidS (L2.out.trans (hb.mono L2.out.size))
        clear L2 hb S2 K2 R2 O2 P2 Q2 X2
        have hlen : (refS s' (N : Int) (x.refs - 1)).slots.length = s'.slots.length := refS_len _ _ _
        have hhd : (refS s' (N : Int) (x.refs - 1)).heads = s'.heads := rfl
        obtain ⟨g2, p2, rfl, t1, t2, t3⟩ : ∃ b o, aS2 = some ⟨b, o, none⟩ ∧ w2.heap.size ≤ b ∧ b < w3.heap.size ∧ RowB b o (flat (refS s' (N : Int) (x.refs - 1)).slots) w3 := by
          rcases hO.slots with e | h
          · have := flat_len (refS s' (N : Int) (x.refs - 1)).slots; rw [e, hlen] at this; simp at this; omega
          · exact h
        obtain ⟨g3, p3, rfl, t4, t5, t6⟩ : ∃ b o, aH2 = some ⟨b, o, none⟩ ∧ w2.heap.size ≤ b ∧ b < w3.heap.size ∧ RowB b o (refS s' (N : Int) (x.refs - 1)).heads w3 := by
          rcases hO.heads with e | h
          · rw [hhd] at e; rw [e] at y3; simp at y3
          · exact h
        have hne : g2 ≠ g3 := hO.two _ _ _ _ rfl rfl (fun e => by have h2 := hlen; rw [e] at h2; have h3 : (0 : Nat) = s'.slots.length := h2; omega) (fun e => by rw [hhd] at e; rw [e] at y3; simp at y3)
        have HH : Hid (hdK (refS s' (N : Int) (x.refs - 1)) key = hdK s' key) := hidS rfl
        generalize hgs : (refS s' (N : Int) (x.refs - 1)) = gs at hlen hhd t3 t6 hO HH ⊢
        have HGS := hidS hgs
        clear hgs hO
        have HL2 := hidS hlen
        have HH2 := hidS hhd
        clear hlen
        have P1b := hidS t3
        have Q1b := hidS t6
        clear t3 t6
        have hC2 : Hid ((chN gs key : Int) = c) := by show _ = _; rw [← hC.out]; unfold chN; rw [HH2.out]
        have hCL2 : Hid (chN gs key < gs.heads.length) := by have := hCL.out; show _ < _; unfold chN at this ⊢; rw [HH2.out]; exact this
        clear hhd
        have P23 := P1b
        have Q23 := Q1b
        clear P1b Q1b
        have s0 := blk_cell S3.out 0
        have s1 := blk_cell S3.out 1
        simp at s0 s1
        have fS := blk_free S3.out
        have hF := field_out (some ⟨g2, p2, none⟩) (some ⟨g3, p3, none⟩) gs.slots.length v2 gs.heads.length v3 ga 0 w3
        go_upto_region 26 with fail
        clear s0 s1 fS hF
        have S4 : Hid ((((w3.setCell ⟨w.heap.size, 0, none⟩ (.slice (some ⟨g2, p2, none⟩) gs.slots.length v2)).setCell ⟨w.heap.size, 1, none⟩ (.slice (some ⟨g3, p3, none⟩) gs.heads.length v3))).heap[w.heap.size]? = some (.cells #[.slice (some ⟨g2, p2, none⟩) gs.slots.length v2, .slice (some ⟨g3, p3, none⟩) gs.heads.length v3] 26)) := by
          have := (blk_set (blk_set S3.out 0 (.slice (some ⟨g2, p2, none⟩) gs.slots.length v2)) 1 (.slice (some ⟨g3, p3, none⟩) gs.heads.length v3))
          exact this
        have K4 : Hid ((((w3.setCell ⟨w.heap.size, 0, none⟩ (.slice (some ⟨g2, p2, none⟩) gs.slots.length v2)).setCell ⟨w.heap.size, 1, none⟩ (.slice (some ⟨g3, p3, none⟩) gs.heads.length v3))).heap[w.heap.size + 1]? = some (.cells #[.int .i64 key, .int .i64 (N : Int), .int .i64 2, .int .i64 0, .int .i64 0, .int .i64 0, .int .i64 (steps' + 1)] 30)) := hidS (blk_other (B := w.heap.size) (blk_other (B := w.heap.size) K3.out (by omega) 0 (.slice (some ⟨g2, p2, none⟩) gs.slots.length v2)) (by omega) 1 (.slice (some ⟨g3, p3, none⟩) gs.heads.length v3))
        have R4 : Hid ((((w3.setCell ⟨w.heap.size, 0, none⟩ (.slice (some ⟨g2, p2, none⟩) gs.slots.length v2)).setCell ⟨w.heap.size, 1, none⟩ (.slice (some ⟨g3, p3, none⟩) gs.heads.length v3))).heap[w.heap.size + 1 + 1]? = some (.cells #[.slice none 0 0, .slice none 0 0, .int .i64 0, .int .i64 0, .int .i64 0, .int .i64 0, .int .i64 0, .int .i64 0, .int .i64 0, .int .i64 0] 32)) := hidS (blk_other (B := w.heap.size) (blk_other (B := w.heap.size) R3.out (by omega) 0 (.slice (some ⟨g2, p2, none⟩) gs.slots.length v2)) (by omega) 1 (.slice (some ⟨g3, p3, none⟩) gs.heads.length v3))
        have O4 : Hid ((((w3.setCell ⟨w.heap.size, 0, none⟩ (.slice (some ⟨g2, p2, none⟩) gs.slots.length v2)).setCell ⟨w.heap.size, 1, none⟩ (.slice (some ⟨g3, p3, none⟩) gs.heads.length v3))).heap[go]? = some (.cells #[.int .i64 c] 2)) := hidS (blk_other (B := w.heap.size) (blk_other (B := w.heap.size) O3.out (by omega) 0 (.slice (some ⟨g2, p2, none⟩) gs.slots.length v2)) (by omega) 1 (.slice (some ⟨g3, p3, none⟩) gs.heads.length v3))
        have P4 : Hid (RowB b2 o2 (flat s'.slots) (((w3.setCell ⟨w.heap.size, 0, none⟩ (.slice (some ⟨g2, p2, none⟩) gs.slots.length v2)).setCell ⟨w.heap.size, 1, none⟩ (.slice (some ⟨g3, p3, none⟩) gs.heads.length v3)))) := hidS (RowB.other (g := w.heap.size) (k := 1) (v := .slice (some ⟨g3, p3, none⟩) gs.heads.length v3) (RowB.other (g := w.heap.size) (k := 0) (v := .slice (some ⟨g2, p2, none⟩) gs.slots.length v2) P3.out (by omega)) (by omega))
        have Q4 : Hid (RowB b3 o3 s'.heads (((w3.setCell ⟨w.heap.size, 0, none⟩ (.slice (some ⟨g2, p2, none⟩) gs.slots.length v2)).setCell ⟨w.heap.size, 1, none⟩ (.slice (some ⟨g3, p3, none⟩) gs.heads.length v3)))) := hidS (RowB.other (g := w.heap.size) (k := 1) (v := .slice (some ⟨g3, p3, none⟩) gs.heads.length v3) (RowB.other (g := w.heap.size) (k := 0) (v := .slice (some ⟨g2, p2, none⟩) gs.slots.length v2) Q3.out (by omega)) (by omega))
        have X4 : Hid ((((w3.setCell ⟨w.heap.size, 0, none⟩ (.slice (some ⟨g2, p2, none⟩) gs.slots.length v2)).setCell ⟨w.heap.size, 1, none⟩ (.slice (some ⟨g3, p3, none⟩) gs.heads.length v3))).heap[xo]? = some (.cells #[.int .i64 x.key, .int .i64 x.gen, .int .i64 x.refs, .int .i64 x.next] 45)) := hidS (blk_other (B := w.heap.size) (blk_other (B := w.heap.size) X3.out (by omega) 0 (.slice (some ⟨g2, p2, none⟩) gs.slots.length v2)) (by omega) 1 (.slice (some ⟨g3, p3, none⟩) gs.heads.length v3))
        have P24 : Hid (RowB g2 p2 (flat gs.slots) (((w3.setCell ⟨w.heap.size, 0, none⟩ (.slice (some ⟨g2, p2, none⟩) gs.slots.length v2)).setCell ⟨w.heap.size, 1, none⟩ (.slice (some ⟨g3, p3, none⟩) gs.heads.length v3)))) := hidS (RowB.other (g := w.heap.size) (k := 1) (v := .slice (some ⟨g3, p3, none⟩) gs.heads.length v3) (RowB.other (g := w.heap.size) (k := 0) (v := .slice (some ⟨g2, p2, none⟩) gs.slots.length v2) P23.out (by omega)) (by omega))
        have Q24 : Hid (RowB g3 p3 gs.heads (((w3.setCell ⟨w.heap.size, 0, none⟩ (.slice (some ⟨g2, p2, none⟩) gs.slots.length v2)).setCell ⟨w.heap.size, 1, none⟩ (.slice (some ⟨g3, p3, none⟩) gs.heads.length v3)))) := hidS (RowB.other (g := w.heap.size) (k := 1) (v := .slice (some ⟨g3, p3, none⟩) gs.heads.length v3) (RowB.other (g := w.heap.size) (k := 0) (v := .slice (some ⟨g2, p2, none⟩) gs.slots.length v2) Q23.out (by omega)) (by omega))
        have L4 : Hid (Below w.heap.size w (((w3.setCell ⟨w.heap.size, 0, none⟩ (.slice (some ⟨g2, p2, none⟩) gs.slots.length v2)).setCell ⟨w.heap.size, 1, none⟩ (.slice (some ⟨g3, p3, none⟩) gs.heads.length v3)))) := hidS (below_at (k := 1) (b := w.heap.size) (v := .slice (some ⟨g3, p3, none⟩) gs.heads.length v3) (below_at (k := 0) (b := w.heap.size) (v := .slice (some ⟨g2, p2, none⟩) gs.slots.length v2) L3.out (by omega)) (by omega))
        clear L3 S3 K3 R3 O3 P3 Q3 X3 P23 Q23
        generalize ((w3.setCell ⟨w.heap.size, 0, none⟩ (.slice (some ⟨g2, p2, none⟩) gs.slots.length v2)).setCell ⟨w.heap.size, 1, none⟩ (.slice (some ⟨g3, p3, none⟩) gs.heads.length v3)) = w4 at S4 K4 R4 O4 P4 Q4 X4 P24 Q24 L4 ⊢
        clear P4
        clear Q4
        have P4 := P24
        have Q4 := Q24
        clear P24 Q24
        have k0 := blk_cell K4.out 0
        have k1 := blk_cell K4.out 1
        have k2 := blk_cell K4.out 2
        have k3 := blk_cell K4.out 3
        have k4 := blk_cell K4.out 4
        have k5 := blk_cell K4.out 5
        have k6 := blk_cell K4.out 6
        simp at k0 k1 k2 k3 k4 k5 k6
        go_wp2_with fail
        refine (beginAnew_any w.heap.size go (w.heap.size + 1) _ _ _ _ gs key (N : Int) 2 0 0 0 (steps' + 1) w4 S4.out (by rw [hC2.out]; exact O4.out) K4.out Q4.out.read hCL2.out (by omega) (by omega)).mono ?_
        rintro _ v9 ⟨rfl, hv9⟩
        rw [HH.out] at hv9
        rw [hv9]
        clear hv9 v9
        have S5 : Hid ((((w4.setCell ⟨w.heap.size + 1, 1, none⟩ (.int .i64 (hdK s' key))).setCell ⟨w.heap.size + 1, 2, none⟩ (.int .i64 0))).heap[w.heap.size]? = some (.cells #[.slice (some ⟨g2, p2, none⟩) gs.slots.length v2, .slice (some ⟨g3, p3, none⟩) gs.heads.length v3] 26)) := hidS (blk_other (B := w.heap.size + 1) (blk_other (B := w.heap.size + 1) S4.out (by omega) 1 (.int .i64 (hdK s' key))) (by omega) 2 (.int .i64 0))
        have K5 : Hid ((((w4.setCell ⟨w.heap.size + 1, 1, none⟩ (.int .i64 (hdK s' key))).setCell ⟨w.heap.size + 1, 2, none⟩ (.int .i64 0))).heap[w.heap.size + 1]? = some (.cells #[.int .i64 key, .int .i64 (hdK s' key), .int .i64 0, .int .i64 0, .int .i64 0, .int .i64 0, .int .i64 (steps' + 1)] 30)) := by
          have := (blk_set (blk_set K4.out 1 (.int .i64 (hdK s' key))) 2 (.int .i64 0))
          exact this
        have R5 : Hid ((((w4.setCell ⟨w.heap.size + 1, 1, none⟩ (.int .i64 (hdK s' key))).setCell ⟨w.heap.size + 1, 2, none⟩ (.int .i64 0))).heap[w.heap.size + 1 + 1]? = some (.cells #[.slice none 0 0, .slice none 0 0, .int .i64 0, .int .i64 0, .int .i64 0, .int .i64 0, .int .i64 0, .int .i64 0, .int .i64 0, .int .i64 0] 32)) := hidS (blk_other (B := w.heap.size + 1) (blk_other (B := w.heap.size + 1) R4.out (by omega) 1 (.int .i64 (hdK s' key))) (by omega) 2 (.int .i64 0))
        have O5 : Hid ((((w4.setCell ⟨w.heap.size + 1, 1, none⟩ (.int .i64 (hdK s' key))).setCell ⟨w.heap.size + 1, 2, none⟩ (.int .i64 0))).heap[go]? = some (.cells #[.int .i64 c] 2)) := hidS (blk_other (B := w.heap.size + 1) (blk_other (B := w.heap.size + 1) O4.out (by omega) 1 (.int .i64 (hdK s' key))) (by omega) 2 (.int .i64 0))
        have X5 : Hid ((((w4.setCell ⟨w.heap.size + 1, 1, none⟩ (.int .i64 (hdK s' key))).setCell ⟨w.heap.size + 1, 2, none⟩ (.int .i64 0))).heap[xo]? = some (.cells #[.int .i64 x.key, .int .i64 x.gen, .int .i64 x.refs, .int .i64 x.next] 45)) := hidS (blk_other (B := w.heap.size + 1) (blk_other (B := w.heap.size + 1) X4.out (by omega) 1 (.int .i64 (hdK s' key))) (by omega) 2 (.int .i64 0))
        have P5 : Hid (RowB g2 p2 (flat gs.slots) (((w4.setCell ⟨w.heap.size + 1, 1, none⟩ (.int .i64 (hdK s' key))).setCell ⟨w.heap.size + 1, 2, none⟩ (.int .i64 0)))) := hidS (RowB.other (g := w.heap.size + 1) (k := 2) (v := .int .i64 0) (RowB.other (g := w.heap.size + 1) (k := 1) (v := .int .i64 (hdK s' key)) P4.out (by omega)) (by omega))
        have Q5 : Hid (RowB g3 p3 gs.heads (((w4.setCell ⟨w.heap.size + 1, 1, none⟩ (.int .i64 (hdK s' key))).setCell ⟨w.heap.size + 1, 2, none⟩ (.int .i64 0)))) := hidS (RowB.other (g := w.heap.size + 1) (k := 2) (v := .int .i64 0) (RowB.other (g := w.heap.size + 1) (k := 1) (v := .int .i64 (hdK s' key)) Q4.out (by omega)) (by omega))
        have L5 : Hid (Below w.heap.size w (((w4.setCell ⟨w.heap.size + 1, 1, none⟩ (.int .i64 (hdK s' key))).setCell ⟨w.heap.size + 1, 2, none⟩ (.int .i64 0)))) := hidS (below_at (k := 2) (b := w.heap.size + 1) (v := .int .i64 0) (below_at (k := 1) (b := w.heap.size + 1) (v := .int .i64 (hdK s' key)) L4.out (by omega)) (by omega))
        clear L4 S4 K4 R4 O4 X4 P4 Q4
        generalize ((w4.setCell ⟨w.heap.size + 1, 1, none⟩ (.int .i64 (hdK s' key))).setCell ⟨w.heap.size + 1, 2, none⟩ (.int .i64 0)) = w5 at S5 K5 R5 O5 X5 P5 Q5 L5 ⊢
        have HE : stepP s' ⟨key, (N : Int), 2, 0, 0, 0, steps'⟩ = (gs, ⟨key, (hdK s' key), 0, 0, 0, 0, (steps' + 1)⟩) := by unfold stepP; rw [if_neg (by show ¬ (N : Int) < 0; omega), if_neg (by simp), if_neg (by simp), EX.out, if_neg hq, HGS.out]
        have HF2 := hidS (won_step HW.out HE)
        clear HE
        go_wp2_with fail
        go_step3
        exact ⟨⟨n, (n : Int), gs, go, g2, p2, v2, g3, p3, v3, (hdK s' key), 0, 0, 0, 0, (steps' + 1), by kernel_rfl, rfl, by omega, ⟨S5.out, K5.out, R5.out, O5.out, P5.out, Q5.out, by omega, L5.out⟩, HF2⟩, by show 2 * (intOf (.int .i64 (n : Int))).toNat < 2 * (intOf (.int .i64 (n : Int))).toNat + 1; omega⟩
    | l + 4, _, hJ => exact hJ.elim
end Go.Proofs.Ytfjgofmjhccdkaa
