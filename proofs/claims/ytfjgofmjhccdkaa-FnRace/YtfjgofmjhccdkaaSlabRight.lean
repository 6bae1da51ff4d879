/- Proved here: spec.SlabRight answers whether a slab is right; all old memory stays (conditions: the slab's rows can be read; at most 2^20 numbers). -/
import Derived.Test.YtfjgofmjhccdkaaSlabSpec3
import Derived.Test.YtfjgofmjhccdkaaAll2
namespace Go.Proofs.Ytfjgofmjhccdkaa
open Go.ChangeShapes Go.WideShapes Go.ChangeAt Go.RowKit
set_option linter.unusedVariables false
set_option linter.unusedSimpArgs false
set_option maxRecDepth 100000

/-- the slot of a number -/
def slotN (s : Slb) (n : Int) : Slt := s.slots.getD n.toNat zeroSlt
def badB (s : Slb) (c : Int) (seen pre : List Int) (n : Int) : Bool := decide (n ∈ seen) || decide ((slotN s n).refs < 1) || decide ((slotN s n).key.tmod s.heads.length ≠ c) || pre.any (fun b => decide ((slotN s b).key = (slotN s n).key))
/-- the slots of a chain one by one: none of another place, each held, each key belongs there, none twice -/
def goL (s : Slb) (c : Int) : List Int → List Int → List Int → Option (List Int)
  | seen, pre, [] => some seen
  | seen, pre, n :: l => if badB s c seen pre n = true then none else goL s c (n :: seen) (pre ++ [n]) l
def rightC (s : Slb) : Nat → Nat → List Int → Bool
  | 0, c, seen => true
  | r + 1, c, seen => if (chainOf s c).2 = -1 - (c : Int) then (match goL s c seen [] (chainOf s c).1 with | none => false | some seen' => rightC s r (c + 1) seen') else false
/-- is it right? -/
def rightSl (s : Slb) : Bool := slotsB s && rightC s s.heads.length 0 []
theorem chain_in {s : Slb} (h : Leads s) : ∀ (f : Nat) (x : Int), x < s.slots.length → ∀ n ∈ (chainL s f x).1, 0 ≤ n ∧ n < s.slots.length
  | 0, x, hx, n, hn => by simp [chainL] at hn
  | f + 1, x, hx, n, hn => by
    unfold chainL at hn
    by_cases h0 : 0 ≤ x
    · rw [if_pos h0] at hn
      rcases List.mem_cons.1 hn with rfl | hn
      · exact ⟨h0, hx⟩
      · exact chain_in h f (nx s x) (h.slots x.toNat (by omega)) n hn
    · rw [if_neg h0] at hn; simp at hn
/-- which slots were seen -/
def boolCells (n : Nat) (seen : List Int) : Array Value := ((List.range n).map fun i : Nat => Value.bool (decide ((i : Int) ∈ seen))).toArray
theorem boolCells_get (n : Nat) (seen : List Int) (i : Nat) (h : i < n) : (boolCells n seen)[i]? = some (.bool (decide ((i : Int) ∈ seen))) := by simp [boolCells, h]
theorem boolCells_set (n : Nat) (seen : List Int) (i : Nat) : (boolCells n seen).setIfInBounds i (.bool true) = boolCells n ((i : Int) :: seen) := by
  apply Array.ext
  · simp [boolCells]
  · intro j h1 h2
    have hj : j < n := by simpa [boolCells] using h2
    by_cases e : i = j
    · subst e; simp [boolCells]
    · have e' : ¬ ((j : Int) = (i : Int)) := by omega
      simp [boolCells, Array.getElem_setIfInBounds, e, e']
theorem made_bools (n : Nat) : madeCells #[.bool false] n = boolCells n [] := by
  apply Array.ext
  · simp [size_madeCells, boolCells]
  · intro i h1 h2
    simp [madeCells, boolCells, Nat.mod_one]
theorem make_bools (n : Nat) (hn : n ≤ 1048576) (W : World) : (Instr.makeSlice 117 (.int .i64 (n : Int)) (.int .i64 (n : Int))).run Try.prog W = .ok (.slice (some ⟨W.heap.size, 0, none⟩) n n) (W.alloc (.cells (boolCells n []) 4)) := by
  rw [← made_bools]
  exact run_make_row' (P := Try.prog) 117 4 (.bool false) 1 Try.underlying117 (by kernel_rfl) rfl .i64 .i64 n (by omega) (by omega) W
theorem slot_nat (s : Slb) (j : Nat) : slotN s (j : Int) = s.slots.getD j zeroSlt := by unfold slotN; rw [Int.toNat_natCast]
theorem drop_get {l : List Int} {i : Nat} (h : i < l.length) : l.drop i = l.getD i 0 :: l.drop (i + 1) := by
  rw [List.drop_eq_getElem_cons h]; simp [h]
theorem take_get {l : List Int} {i : Nat} (h : i < l.length) : l.take (i + 1) = l.take i ++ [l.getD i 0] := by
  rw [List.take_succ_eq_append_getElem h]; simp [h]
theorem chain_len (s : Slb) : ∀ (f : Nat) (x : Int), (chainL s f x).1.length ≤ f
  | 0, x => by simp [chainL]
  | f + 1, x => by
    unfold chainL
    split
    · have := chain_len s f (nx s x); simp; omega
    · simp
/-- what lasts while a chain is gone along -/
def RoundC (s : Slb) (c : Int) (seen l : List Int) (w : World) (g top : Nat) (al : Option Addr) (oA : Obj) (ii : Value) (wr : World) : Prop :=
  ∃ (i : Nat) (sn : List Int), ii = .int .i64 (i : Int) ∧ i ≤ l.length ∧ goL s c seen [] l = goL s c sn (l.take i) (l.drop i) ∧ wr.heap[w.heap.size]? = some oA ∧ wr.heap[g]? = some (.cells (boolCells s.slots.length sn) 4) ∧ OwnR (g + 1) top al l wr ∧ Below w.heap.size w wr
/-- what lasts while a slot is held against those ahead of it -/
def RoundK (s : Slb) (l sn : List Int) (w : World) (g top BX i : Nat) (al : Option Addr) (x : Slt) (oA oX : Obj) (kk : Value) (wr : World) : Prop :=
  ∃ k : Nat, kk = .int .i64 (k : Int) ∧ k ≤ i ∧ (∀ b ∈ l.take k, (slotN s b).key ≠ x.key) ∧ wr.heap[w.heap.size]? = some oA ∧ wr.heap[g]? = some (.cells (boolCells s.slots.length sn) 4) ∧ OwnR (g + 1) top al l wr ∧ wr.heap[BX]? = some oX ∧ Below w.heap.size w wr
set_option maxHeartbeats 8000000 in
theorem specSlabRight_any (aS aH : Option Addr) (cS cH : Nat) (s : Slb) (w : World) (hR : SlabZ aS aH s w) (h1 : s.slots.length ≤ 1048576) (h2 : s.heads.length ≤ 1048576) :
    Calls Try.prog 54 #[.agg #[.slice aS s.slots.length cS, .slice aH s.heads.length cH]] w fun e w' => e = .returned (.bool (rightSl s)) ∧ Below w.heap.size w w' := by
  have HS := hidS (fun W (h : Below w.heap.size w W) => l06Slots_any aS aH cS cH s W (hR.later h) h1 h2)
  have HR := hidS hR
  clear hR
  have hA0 := hidS (heap_newG w (.cells #[.slice aS s.slots.length cS, .slice aH s.heads.length cH] 26))
  have hb0 := hidS ((Below.refl w.heap.size w).alloc (Nat.le_refl _) (.cells #[.slice aS s.slots.length cS, .slice aH s.heads.length cH] 26))
  cases hsl : slotsB s
  · rw [hsl] at HS
    have EN : Hid (rightSl s = false) := by show _ = _; unfold rightSl; rw [hsl]; rfl
    clear hsl
    go_enter Try.func54, Try.ntmps54
    go_wp2_with fail
    refine (HS.out _ hb0.out).mono ?_
    rintro e w1 ⟨rfl, hb1⟩
    have hB1 := hidS (hb0.out.trans (hb1.mono hb0.out.size))
    clear hb1
    go_wp2_with fail
    go_ret
    exact ⟨by rw [EN.out]; rfl, hB1.out⟩
  obtain ⟨hL, n1, n2, n3, n4⟩ := slotsB_leads hsl
  have HL := hidS hL
  have ER : Hid (rightSl s = rightC s s.heads.length 0 []) := by show _ = _; unfold rightSl; rw [hsl]; rfl
  rw [hsl] at HS
  clear hsl hL
  go_enter Try.func54, Try.ntmps54
  go_wp2_with fail
  refine (HS.out _ hb0.out).mono ?_
  rintro e w1 ⟨rfl, hb1⟩
  have hB1 := hidS (hb0.out.trans (hb1.mono hb0.out.size))
  have hA1 := hidS (blk_later hA0.out hb1)
  have lA := blk_lt hA1.out
  have a0 := blk_cell hA1.out 0
  simp at a0
  have hmk := make_bools s.slots.length h1 w1
  have hA2 := hidS (blk_alloc hA1.out (.cells (boolCells s.slots.length []) 4))
  have hG2 := hidS (heap_newG w1 (.cells (boolCells s.slots.length []) 4))
  have hB2 := hidS (hB1.out.alloc (by omega) (.cells (boolCells s.slots.length []) 4))
  clear hb1 hA0 hb0 hB1 hA1 HS
  go_upto_region 4 with fail
  generalize w1.alloc (.cells (boolCells s.slots.length []) 4) = w2 at hA2 hG2 hB2 ⊢
  generalize w1.heap.size = g at *
  clear a0 hmk
  go_wp2_with fail
  go_loopw [4] (fun ci wr => ∃ (c : Nat) (seen : List Int), ci = .int .i64 (c : Int) ∧ c ≤ s.heads.length ∧ rightC s s.heads.length 0 [] = rightC s (s.heads.length - c) c seen ∧ wr.heap[w.heap.size]? = some (.cells #[.slice aS s.slots.length cS, .slice aH s.heads.length cH] 26) ∧ wr.heap[g]? = some (.cells (boolCells s.slots.length seen) 4) ∧ Below w.heap.size w wr) (fun ci _ => (s.heads.length - (intOf ci).toNat))
  case atStart => exact ⟨0, [], rfl, Nat.zero_le _, rfl, hA2.out, hG2.out, hB2.out⟩
  case round =>
    obtain ⟨c, seen, rfl, hc, hrc, hA, hG, hb⟩ := hrel
    have HRC := hidS hrc
    have HA := hidS hA
    have HG := hidS hG
    have HB := hidS hb
    have lG := blk_lt hG
    have a0 := blk_cell hA 0
    have a1 := blk_cell hA 1
    simp at a0 a1
    clear hA2 hG2 hB2 hrc hA hG hb
    by_cases hlt : ¬ c < s.heads.length
    · have e : c = s.heads.length := by omega
      have hge : ¬ (c : Int) < (s.heads.length : Int) := by omega
      have EY : Hid (rightSl s = true) := by show _ = _; rw [ER.out, HRC.out, e, Nat.sub_self]; rfl
      clear e hlt HRC
      go_wp2_with fail
      go_ret
      exact ⟨by rw [EY.out]; rfl, HB.out⟩
    have hlt := Classical.not_not.1 hlt
    have hlt' : (c : Int) < (s.heads.length : Int) := by omega
    have HSTEP : Hid (rightC s s.heads.length 0 [] = if (chainOf s c).2 = -1 - (c : Int) then (match goL s c seen [] (chainOf s c).1 with | none => false | some seen' => rightC s (s.heads.length - (c + 1)) (c + 1) seen') else false) := by
      show _ = _
      rw [HRC.out, show s.heads.length - c = (s.heads.length - (c + 1)) + 1 by omega]
      rfl
    have HIN : Hid (∀ n ∈ (chainOf s c).1, 0 ≤ n ∧ n < s.slots.length) := hidS (chain_in HL.out _ _ (HL.out.heads c hlt))
    have HCH := hidS (fun W (h : Below w.heap.size w W) => l06Chain_any aS aH cS cH s c W (HR.out.later h) HL.out (by omega) hlt (by omega))
    have hlen : (chainOf s c).1.length ≤ s.slots.length + 1 := chain_len s _ _
    generalize chainOf s (c : Int) = ch at HSTEP HIN HCH hlen
    obtain ⟨l, en⟩ := ch
    have hlen : l.length ≤ 25 := by have : l.length ≤ s.slots.length + 1 := hlen; omega
    go_wp2_with fail
    refine (HCH.out _ HB.out).mono ?_
    rintro _ w3 ⟨al, cl, rfl, hO3, hb3⟩
    have hA3 := hidS (blk_later HA.out hb3)
    have hG3 := hidS (blk_later HG.out hb3)
    have hB3 := hidS (HB.out.trans (hb3.mono HB.out.size))
    have HO3 : Hid (OwnR (g + 1) w3.heap.size al l w3) := by
      show OwnR _ _ _ _ _
      rcases hO3 with e | ⟨b, p, e, q1, q2, q3⟩
      · exact .inl e
      · exact .inr ⟨b, p, e, by omega, q2, q3⟩
    have lG3 := blk_lt hG3.out
    clear hb3 hO3 HA HG HB HCH a0 a1 HRC
    by_cases hen : ¬ en = -1 - (c : Int)
    · have EN : Hid (rightSl s = false) := by show _ = _; rw [ER.out, HSTEP.out, if_neg hen]
      have hen' : (en != -1 - (c : Int)) = true := bne_iff_ne.2 hen
      clear hen HSTEP
      go_wp2_with fail
      go_ret
      exact ⟨by rw [EN.out]; rfl, hB3.out⟩
    have hen := Classical.not_not.1 hen
    have HS2 : Hid (rightC s s.heads.length 0 [] = (match goL s c seen [] l with | none => false | some seen' => rightC s (s.heads.length - (c + 1)) (c + 1) seen')) := by show _ = _; rw [HSTEP.out, if_pos hen]
    have HEN := hidS hen
    have hen' : (en != -1 - (c : Int)) = false := by rw [hen]; simp
    clear hen HSTEP
    go_wp2_with fail
    generalize w3.heap.size = top at HO3
    clear hen'
    go_loopw [7] (fun ii wr => RoundC s c seen l w g top al (.cells #[.slice aS s.slots.length cS, .slice aH s.heads.length cH] 26) ii wr) (fun ii _ => (l.length - (intOf ii).toNat))
    case atStart => exact ⟨0, seen, rfl, Nat.zero_le _, by simp, hA3.out, hG3.out, HO3.out, hB3.out⟩
    case round =>
      obtain ⟨i, sn, rfl, hi, hgo, hA, hG, hO, hb⟩ := hrel
      have HGO := hidS hgo
      have HA := hidS hA
      have HG := hidS hG
      have HO := hidS hO
      have HB := hidS hb
      have lG4 := blk_lt hG
      have a0 := blk_cell hA 0
      have a1 := blk_cell hA 1
      simp at a0 a1
      clear hA3 hG3 HO3 hB3 hgo hA hG hO hb
      by_cases hil : ¬ i < l.length
      · have e : i = l.length := by omega
        have hge : ¬ (i : Int) < (l.length : Int) := by omega
        have HS3 : Hid (rightC s s.heads.length 0 [] = rightC s (s.heads.length - (c + 1)) (c + 1) sn) := by
          show _ = _
          rw [HS2.out, HGO.out, e, List.drop_length]
          rfl
        clear e hil
        go_wp2_with fail
        go_roundw
        case rel => exact ⟨c + 1, sn, by simp, by omega, HS3.out, HA.out, HG.out, HB.out⟩
        case measure => simp [intOf]; omega
      have hil := Classical.not_not.1 hil
      have hil' : (0 : Int) ≤ (i : Int) ∧ (i : Int) < (l.length : Int) := by omega
      have hi25 : (i : Int) < 25 := by omega
      obtain ⟨bl, ol, el, ll, cl0⟩ := HO.out.read i hil
      obtain ⟨j, hj⟩ : ∃ j : Nat, l.getD i 0 = (j : Int) := ⟨(l.getD i 0).toNat, by have := HIN.out (l.getD i 0) (by rw [List.getD_eq_getElem?_getD, List.getElem?_eq_getElem hil]; exact List.getElem_mem _); omega⟩
      have hjl : j < s.slots.length := by have := HIN.out (l.getD i 0) (by rw [List.getD_eq_getElem?_getD, List.getElem?_eq_getElem hil]; exact List.getElem_mem _); omega
      obtain ⟨bS, oS, eS, lS, c0, c1, c2, c3⟩ := (HR.out.slots.later HB.out).slot hjl
      have HGS : Hid (goL s c seen [] l = if badB s c sn (l.take i) (j : Int) = true then none else goL s c ((j : Int) :: sn) (l.take (i + 1)) (l.drop (i + 1))) := by
        show _ = _
        rw [HGO.out, drop_get hil, take_get hil, hj]
        rfl
      obtain ⟨x, hx⟩ : ∃ x, s.slots.getD j zeroSlt = x := ⟨_, rfl⟩
      have EX : Hid (slotN s (j : Int) = x) := by show _ = _; rw [slot_nat]; exact hx
      rw [hx] at c0 c1 c2 c3
      rw [hj] at cl0
      have HJ := hidS hj
      have HEL := hidS el
      have HES := hidS eS
      have hjj : (0 : Int) ≤ (j : Int) ∧ (j : Int) < (s.slots.length : Int) := by omega
      clear hx hj el eS HGO
      go_wp2_with fail
      refine grow_struct 9 _ [.is (.pointer (some ⟨w.heap.size, 0, none⟩)), .is (.slice aS s.slots.length cS), .is (.slice al l.length cl), .is (.int .i64 (i : Int)), .is (.pointer (some ⟨bl, ol + i, none⟩)), .is (.int .i64 (j : Int)), .is (.pointer (some ⟨bS, oS + j * 4, none⟩)), .is (.agg #[.int .i64 x.key, .int .i64 x.gen, .int .i64 x.refs, .int .i64 x.next]), .blk wr.heap.size #[.int .i64 0, .int .i64 0, .int .i64 0, .int .i64 0] 45] 8 7 8 47 45 45 #[.int .i64 0, .int .i64 0, .int .i64 0, .int .i64 0] #[.int .i64 x.key, .int .i64 x.gen, .int .i64 x.refs, .int .i64 x.next] rfl rfl rfl (by kernel_rfl) (by kernel_rfl) (by kernel_rfl) rfl rfl rfl rfl (by decide) (by decide) rfl rfl rfl (by first | kernel_rfl | simp [Value.oneCell']) (by kernel_rfl) ?steps13 ?fin13
      case steps13 =>
        refine ⟨?_, ?_, ?_, ?_, ?_, ?_, ?_, ?_, ?_, trivial⟩
        · refine ⟨rfl, fun v W ρ hC kc kf ks ki kd => ?_⟩
          have t1 : ρ (.tmp 1) = .pointer (some ⟨w.heap.size, 0, none⟩) := ki 1 (by decide)
          simp [execOp, go_sem, kc, t1]
          exact ⟨hC, Below.refl _ _, rfl⟩
        · refine ⟨rfl, fun v W ρ hC kc kf ks ki kd => ?_⟩
          have d0 : v 0 = .pointer (some ⟨w.heap.size, 0, none⟩) := (kdj kd 0 rfl :)
          have t40 : ρ (.tmp 40) = .pointer (some ⟨w.heap.size, 0, none⟩) := (ks 0 40 (by decide) rfl).trans d0
          have e0 := blk_cell (blk_later HA.out hC) 0
          simp at e0
          simp [execOp, go_sem, kc, t40, e0]
          exact ⟨hC, Below.refl _ _, rfl⟩
        · refine ⟨rfl, fun v W ρ hC kc kf ks ki kd => ?_⟩
          have t5 : ρ (.tmp 5) = .slice al l.length cl := ki 5 (by decide)
          simp [execOp, go_sem, kc, t5]
          exact ⟨hC, Below.refl _ _, rfl⟩
        · refine ⟨rfl, fun v W ρ hC kc kf ks ki kd => ?_⟩
          have t7 : ρ (.tmp 7) = .int .i64 (i : Int) := ki 7 (by decide)
          simp [execOp, go_sem, kc, t7]
          exact ⟨hC, Below.refl _ _, rfl⟩
        · refine ⟨rfl, fun v W ρ hC kc kf ks ki kd => ?_⟩
          have d2 : v 2 = .slice al l.length cl := (kdj kd 2 rfl :)
          have t42 : ρ (.tmp 42) = .slice al l.length cl := (ks 2 42 (by decide) rfl).trans d2
          have d3 : v 3 = .int .i64 (i : Int) := (kdj kd 3 rfl :)
          have t43 : ρ (.tmp 43) = .int .i64 (i : Int) := (ks 3 43 (by decide) rfl).trans d3
          simp [execOp, go_sem, kc, t42, t43, hil', HEL.out]
          exact ⟨hC, Below.refl _ _, rfl⟩
        · refine ⟨rfl, fun v W ρ hC kc kf ks ki kd => ?_⟩
          have d4 : v 4 = .pointer (some ⟨bl, ol + i, none⟩) := (kdj kd 4 rfl :)
          have t44 : ρ (.tmp 44) = .pointer (some ⟨bl, ol + i, none⟩) := (ks 4 44 (by decide) rfl).trans d4
          have e0 := (hC.cell (p := ⟨bl, ol + i, none⟩) ll).trans cl0
          simp [execOp, go_sem, kc, t44, e0]
          exact ⟨hC, Below.refl _ _, rfl⟩
        · refine ⟨rfl, fun v W ρ hC kc kf ks ki kd => ?_⟩
          have d1 : v 1 = .slice aS s.slots.length cS := (kdj kd 1 rfl :)
          have t41 : ρ (.tmp 41) = .slice aS s.slots.length cS := (ks 1 41 (by decide) rfl).trans d1
          have d5 : v 5 = .int .i64 (j : Int) := (kdj kd 5 rfl :)
          have t45 : ρ (.tmp 45) = .int .i64 (j : Int) := (ks 5 45 (by decide) rfl).trans d5
          simp [execOp, go_sem, kc, t41, t45, hjj, HES.out]
          exact ⟨hC, Below.refl _ _, rfl⟩
        · refine ⟨rfl, fun v W ρ hC kc kf ks ki kd => ?_⟩
          have d6 : v 6 = .pointer (some ⟨bS, oS + j * 4, none⟩) := (kdj kd 6 rfl :)
          have t46 : ρ (.tmp 46) = .pointer (some ⟨bS, oS + j * 4, none⟩) := (ks 6 46 (by decide) rfl).trans d6
          have e0 := (hC.cell (p := ⟨bS, oS + j * 4, none⟩) lS).trans c0
          have e1 := (hC.cell (p := ⟨bS, oS + j * 4 + 1, none⟩) lS).trans c1
          have e2 := (hC.cell (p := ⟨bS, oS + j * 4 + 2, none⟩) lS).trans c2
          have e3 := (hC.cell (p := ⟨bS, oS + j * 4 + 3, none⟩) lS).trans c3
          simp [execOp, go_sem, kc, t46, e0, e1, e2, e3]
          exact ⟨hC, Below.refl _ _, rfl⟩
        · refine ⟨rfl, fun v W ρ hC kc kf ks ki kd => ?_⟩
          simp [execOp, go_sem]
          exact ⟨hC.alloc hC.size _, (Below.refl _ _).alloc (Nat.le_refl _) _, W.heap.size, rfl, hC.size, heap_newG _ _⟩
      intro v13 w5 BX hb5 hvB hnB hBk hall
      simp [upto, Act.put]
      rw [hvB]
      clear hall hvB a0 a1 cl0 c0 c1 c2 c3
      have hA5 := hidS (blk_later HA.out hb5)
      have hG5 := hidS (blk_later HG.out hb5)
      have hO5 := hidS (HO.out.later hb5)
      have hB5 := hidS (HB.out.trans (hb5.mono HB.out.size))
      have hX5 := hidS hBk
      have lG5 := blk_lt hG5.out
      have lX5 := blk_lt hBk
      clear hb5 HA HG HO HB hBk
      obtain ⟨bl', ol', el', ll', cl5⟩ := hO5.out.read i hil
      rw [HEL.out] at el'
      injection el' with el'; injection el' with q1 q2
      subst q1 q2
      rw [HJ.out] at cl5
      have s5 := (blk_cell hG5.out j).trans (boolCells_get _ sn j hjl)
      have f5 := blk_free hG5.out j
      have x0 := blk_cell hX5.out 0
      have x2 := blk_cell hX5.out 2
      have a1 := blk_cell hA5.out 1
      simp at x0 x2 a1
      obtain ⟨b1, hb1⟩ : ∃ b : Bool, decide ((j : Int) ∈ sn) = b := ⟨_, rfl⟩
      rw [hb1] at s5
      have hne : s.heads ≠ [] := fun e => by rw [e] at n3; simp at n3
      have HNO : Hid (badB s c sn (l.take i) (j : Int) = true → rightSl s = false) := hidS (fun h => by rw [ER.out, HS2.out, HGS.out, if_pos h])
      have HB1 := hidS hb1
      have hale := HEL.out
      clear hb1
      by_cases hbt : b1 = true
      · have EN : Hid (rightSl s = false) := hidS (HNO.out (by unfold badB; rw [HB1.out, hbt]; rfl))
        subst hbt
        clear HNO HGS HS2
        go_wp2_with fail
        go_ret
        exact ⟨by rw [EN.out]; rfl, hB5.out⟩
      have hbf : b1 = false := by cases b1; rfl; exact (hbt rfl).elim
      subst hbf
      clear hbt
      by_cases hrf : x.refs < 1
      · have EN : Hid (rightSl s = false) := hidS (HNO.out (by unfold badB; rw [EX.out, decide_eq_true hrf]; simp))
        clear HNO HGS HS2
        go_wp2_with fail
        go_ret
        exact ⟨by rw [EN.out]; rfl, hB5.out⟩
      by_cases hkm : ¬ x.key.tmod s.heads.length = (c : Int)
      · have EN : Hid (rightSl s = false) := hidS (HNO.out (by unfold badB; rw [EX.out, decide_eq_true (p := x.key.tmod s.heads.length ≠ (c : Int)) hkm]; simp))
        have hkb : (x.key.tmod (s.heads.length : Int) != (c : Int)) = true := bne_iff_ne.2 hkm
        clear HNO HGS HS2 hkm
        go_wp2_with fail
        go_ret
        exact ⟨by rw [EN.out]; rfl, hB5.out⟩
      have hkm := Classical.not_not.1 hkm
      have HKM := hidS hkm
      have HRF := hidS hrf
      have hkb : (x.key.tmod (s.heads.length : Int) != (c : Int)) = false := by rw [hkm]; simp
      clear hkm
      have ho : ∀ q, q ≠ g → (w5.setCell ⟨g, j, none⟩ (.bool true)).heap[q]? = w5.heap[q]? := fun q hq => Below.heap_setCell w5 ⟨g, j, none⟩ _ q hq
      have hG6 : Hid ((w5.setCell ⟨g, j, none⟩ (.bool true)).heap[g]? = some (.cells (boolCells s.slots.length ((j : Int) :: sn)) 4)) := by
        show _ = _
        have := blk_set hG5.out j (.bool true)
        rw [boolCells_set] at this
        exact this
      have hA6 := hidS ((ho _ (by omega)).trans hA5.out)
      have hX6 := hidS ((ho BX (by omega)).trans hX5.out)
      have hB6 := hidS (below_at (k := j) (b := g) (v := .bool true) hB5.out (by omega))
      have hO6 : Hid (OwnR (g + 1) top al l (w5.setCell ⟨g, j, none⟩ (.bool true))) := by
        show OwnR _ _ _ _ _
        rcases hO5.out with e | ⟨b, p, e, q1, q2, q3⟩
        · exact .inl e
        · exact .inr ⟨b, p, e, q1, q2, q3.keep (ho b (by omega))⟩
      go_upto_region 17 with fail
      generalize w5.setCell ⟨g, j, none⟩ (.bool true) = w6 at hG6 hA6 hX6 hB6 hO6 ⊢
      clear ho hG5 hA5 hX5 hB5 hO5 cl5 s5 f5 x0 x2 a1 hkb hrf
      go_wp2_with fail
      go_loopw [9] (fun kk wr => RoundK s l ((j : Int) :: sn) w g top BX i al x (.cells #[.slice aS s.slots.length cS, .slice aH s.heads.length cH] 26) (.cells #[.int .i64 x.key, .int .i64 x.gen, .int .i64 x.refs, .int .i64 x.next] 45) kk wr) (fun kk _ => (i - (intOf kk).toNat))
      case atStart => exact ⟨0, rfl, Nat.zero_le _, by simp, hA6.out, hG6.out, hO6.out, hX6.out, hB6.out⟩
      case round =>
        obtain ⟨k, rfl, hk, hks, hA, hG, hO, hX, hb⟩ := hrel
        have HKS := hidS hks
        clear hA6 hG6 hO6 hX6 hB6 hks
        by_cases hki : ¬ k < i
        · have e : k = i := by omega
          have hge : ¬ (k : Int) < (i : Int) := by omega
          have HG7 : Hid (goL s c seen [] l = goL s c ((j : Int) :: sn) (l.take (i + 1)) (l.drop (i + 1))) := by
            show _ = _
            rw [HGS.out, if_neg]
            unfold badB
            rw [EX.out, HB1.out, HKM.out]
            have q1 := HRF.out
            have q2 := HKS.out
            rw [e] at q2
            simp only [Bool.or_eq_true, decide_eq_true_eq, List.any_eq_true, not_or, not_exists, not_and]
            exact ⟨⟨⟨by simp, by omega⟩, by simp⟩, fun b hb => q2 b hb⟩
          have HA := hidS hA
          have HG := hidS hG
          have HO := hidS hO
          have HB := hidS hb
          clear e hki hA hG hO hX hb hk
          go_wp2_with fail
          go_roundw
          case rel => exact ⟨i + 1, (j : Int) :: sn, by simp, by omega, HG7.out, HA.out, HG.out, by first | exact HO.out | (rw [← HEL.out]; exact HO.out), HB.out⟩
          case measure => simp [intOf]; omega
        have hki := Classical.not_not.1 hki
        have hki' : (k : Int) < (i : Int) := by omega
        obtain ⟨bk, ok, ek, lk, ck⟩ := hO.read k (by omega)
        rw [HEL.out] at ek
        injection ek with ek; injection ek with r1 r2
        subst r1 r2
        obtain ⟨j2, hj2⟩ : ∃ j2 : Nat, l.getD k 0 = (j2 : Int) := ⟨(l.getD k 0).toNat, by have := HIN.out (l.getD k 0) (by rw [List.getD_eq_getElem?_getD, List.getElem?_eq_getElem (by omega)]; exact List.getElem_mem _); omega⟩
        have hjl2 : j2 < s.slots.length := by have := HIN.out (l.getD k 0) (by rw [List.getD_eq_getElem?_getD, List.getElem?_eq_getElem (by omega)]; exact List.getElem_mem _); omega
        obtain ⟨bT, oT, eT, lT, d0, d1, d2, d3⟩ := (HR.out.slots.later hb).slot hjl2
        obtain ⟨y, hy⟩ : ∃ y, s.slots.getD j2 zeroSlt = y := ⟨_, rfl⟩
        have EY : Hid (slotN s (l.getD k 0) = y) := by show _ = _; rw [hj2, slot_nat]; exact hy
        rw [hy] at d0
        rw [hj2] at ck
        have x0 := blk_cell hX 0
        have a0 := blk_cell hA 0
        simp at x0 a0
        have HA := hidS hA
        have HG := hidS hG
        have HO := hidS hO
        have HX := hidS hX
        have HB := hidS hb
        have hj3 : (0 : Int) ≤ (j2 : Int) ∧ (j2 : Int) < (s.slots.length : Int) := by omega
        have hkl : (0 : Int) ≤ (k : Int) ∧ (k : Int) < (l.length : Int) := by omega
        have HMEM : Hid (l.getD k 0 ∈ l.take i) := by
          show _ ∈ _
          have : (l.take i)[k]? = some (l.getD k 0) := by rw [List.getElem?_take, if_pos hki, List.getElem?_eq_getElem (show k < l.length by omega), List.getD_eq_getElem?_getD, List.getElem?_eq_getElem (show k < l.length by omega)]; rfl
          exact List.mem_of_getElem? this
        rw [eT] at a0
        clear hA hG hO hX hb hy d1 d2 d3 hj2 eT
        by_cases hyx : y.key = x.key
        · have EN : Hid (rightSl s = false) := hidS (HNO.out (by
            unfold badB
            have : (l.take i).any (fun b => decide ((slotN s b).key = (slotN s (j : Int)).key)) = true := List.any_eq_true.2 ⟨_, HMEM.out, decide_eq_true (by rw [EY.out, EX.out]; exact hyx)⟩
            rw [this]; simp))
          rw [hyx] at d0
          clear hyx
          go_wp2_with fail
          go_quiet (fail)
          go_wp2_with fail
          go_ret
          exact ⟨by rw [EN.out]; rfl, below_drewN HB.out _⟩
        · have hyb : (y.key == x.key) = false := beq_eq_false_iff_ne.2 hyx
          have HYX := hidS hyx
          clear hyx
          go_wp2_with fail
          go_quiet (fail)
          go_wp2_with fail
          go_roundw
          case rel =>
            refine ⟨k + 1, by simp, by omega, fun b hb => ?_, HA.out, HG.out, ?_, HX.out, below_drewN HB.out _⟩
            · rw [take_get (show k < l.length by omega)] at hb
              rcases List.mem_append.1 hb with hb | hb
              · exact HKS.out b hb
              · simp only [List.mem_singleton] at hb
                rw [hb, EY.out]; exact HYX.out
            · first | exact HO.out | (rw [← HEL.out]; exact HO.out)
          case measure => simp [intOf]; omega
end Go.Proofs.Ytfjgofmjhccdkaa
