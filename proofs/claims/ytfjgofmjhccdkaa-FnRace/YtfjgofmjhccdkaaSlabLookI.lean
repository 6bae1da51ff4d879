/- Proved here: impl.lookAlong and impl.linkTo give the link that leads to the slot of a key, or to the end; all old memory stays (conditions: the slab's rows can be read; it is right). -/
import Derived.Test.YtfjgofmjhccdkaaAll8
import Derived.Deep.LoopGhost
import Derived.BigQuiet
namespace Go.Proofs.Ytfjgofmjhccdkaa
open Go.ChangeShapes Go.WideShapes Go.ChangeAt Go.RowKit
set_option linter.unusedVariables false
set_option linter.unusedSimpArgs false
set_option maxRecDepth 100000

theorem isOf_any (key : Int) (x : Slt) (w : World) :
    Calls Try.prog 109 #[.int .i64 key, .agg #[.int .i64 x.key, .int .i64 x.gen, .int .i64 x.refs, .int .i64 x.next]] w fun e w' => e = .returned (.bool (x.key == key)) ∧ Below w.heap.size w w' := by
  have HB := fun o => hidS ((Below.refl w.heap.size w).alloc (Nat.le_refl _) o)
  go_enter Try.func109, Try.ntmps109
  go_wp2
  go_ret
  exact ⟨rfl, (HB _).out⟩
/-- along a chain: the link (none: the head; else a slot's Next) that leads to the slot of a key, or to the end; and where it leads -/
def lookL (s : Slb) (key : Int) : Option Int → Int → List Int → Option Int × Int
  | p, x, [] => (p, x)
  | p, x, y :: l => if ((slotN s y).key == key) = true then (p, y) else lookL s key (some y) (nx s y) l
/-- where a link lies -/
def adrL (bS oS bH oH c : Nat) : Option Int → Nat × Nat
  | none => (bH, oH + c)
  | some y => (bS, oS + y.toNat * 4 + 3)
/-- what a link holds -/
def linkV (s : Slb) (c : Nat) : Option Int → Int
  | none => s.heads.getD c 0
  | some y => nx s y
def LinkOk (s : Slb) : Option Int → Prop
  | none => True
  | some y => 0 ≤ y ∧ y < s.slots.length
theorem link_cell {bS oS bH oH : Nat} {s : Slb} {W : World} (hR : SlabZ (some ⟨bS, oS, none⟩) (some ⟨bH, oH, none⟩) s W) {c : Nat} (hc : c < s.heads.length) : ∀ {p : Option Int}, LinkOk s p → (adrL bS oS bH oH c p).1 < W.heap.size ∧ W.cell? ⟨(adrL bS oS bH oH c p).1, (adrL bS oS bH oH c p).2, none⟩ = some (.int .i64 (linkV s c p))
  | none, _ => by
    obtain ⟨b, o, e, l, h⟩ := hR.heads c hc
    injection e with e; injection e with e1 e2
    subst e1 e2
    exact ⟨l, h⟩
  | some y, hp => by
    obtain ⟨b, o, e, l, h0, h1, h2, h3⟩ := hR.slots.slot (i := y.toNat) (by have := hp.1; have := hp.2; omega)
    injection e with e; injection e with e1 e2
    subst e1 e2
    exact ⟨l, h3⟩
theorem look_ok {s : Slb} {key : Int} {c : Nat} : ∀ {l : List Int} {p : Option Int}, (∀ y ∈ l, 0 ≤ y ∧ y < s.slots.length) → LinkOk s p → IsChain s c (linkV s c p) l → LinkOk s (lookL s key p (linkV s c p) l).1 ∧ (lookL s key p (linkV s c p) l).2 = linkV s c (lookL s key p (linkV s c p) l).1
  | [], p, hl, hp, hc => ⟨hp, rfl⟩
  | y :: l, p, hl, hp, hc => by
    obtain ⟨e, hc⟩ := hc
    unfold lookL
    by_cases h : ((slotN s y).key == key) = true
    · rw [if_pos h]; exact ⟨hp, e⟩
    · rw [if_neg h]
      rw [← e] at hc
      exact look_ok (p := some y) (fun z hz => hl z (List.mem_cons_of_mem _ hz)) (hl y (by simp)) hc
/-- what is to be known of a right slab's chain -/
theorem right_chain {s : Slb} (h : rightSl s = true) {c : Nat} (hc : c < s.heads.length) : IsChain s c (s.heads.getD c 0) (chainOf s c).1 ∧ (chainOf s c).2 = -1 - (c : Int) ∧ (∀ y ∈ (chainOf s c).1, 0 ≤ y ∧ y < s.slots.length) := by
  obtain ⟨hL, n1, n2, n3, n4⟩ := right_leads h
  have hen : ∀ (r d : Nat) (sn : List Int), d + r = s.heads.length → rightC s r d sn = true → ∀ i, d ≤ i → i < s.heads.length → (chainOf s i).2 = -1 - (i : Int) := by
    intro r
    induction r with
    | zero => intro d sn e _ i h1 h2; omega
    | succ r ih =>
      intro d sn e hr i h1 h2
      unfold rightC at hr
      by_cases he : (chainOf s d).2 = -1 - (d : Int)
      · rw [if_pos he] at hr
        by_cases hid : i = d
        · subst hid; exact he
        · cases hg : goL s d sn [] (chainOf s d).1 with
          | none => rw [hg] at hr; cases hr
          | some sn' => rw [hg] at hr; exact ih (d + 1) sn' (by omega) hr i (by omega) h2
      · rw [if_neg he] at hr; cases hr
  unfold rightSl at h
  simp only [Bool.and_eq_true] at h
  have h2 := hen s.heads.length 0 [] (by omega) h.2 c (by omega) hc
  refine ⟨?_, h2, chain_in hL _ _ ?_⟩
  · refine of_chain (f := s.slots.length + 1) ?_
    unfold chainOf at h2 ⊢
    rw [Int.toNat_natCast] at h2 ⊢
    rw [← h2]
  · have := hL.heads (c : Int).toNat (by rw [Int.toNat_natCast]; exact hc)
    exact this
/-- the link for a key in a chain -/
def lookC (s : Slb) (key : Int) (c : Nat) : Option Int × Int := lookL s key none (s.heads.getD c 0) (chainOf s c).1
/-- what lasts while a chain is gone along for a key -/
def LookI (s : Slb) (key : Int) (c bS oS bH oH : Nat) (res : Option Int × Int) (w : World) (oA : Obj) (k : Nat) (v : Value) (wr : World) : Prop :=
  ∃ (p : Option Int) (l : List Int), v = .pointer (some ⟨(adrL bS oS bH oH c p).1, (adrL bS oS bH oH c p).2, none⟩) ∧ l.length < k ∧ LinkOk s p ∧ (∀ y ∈ l, 0 ≤ y ∧ y < s.slots.length) ∧ IsChain s c (linkV s c p) l ∧ res = lookL s key p (linkV s c p) l ∧ wr.heap[w.heap.size]? = some oA ∧ Below w.heap.size w wr
set_option maxHeartbeats 8000000 in
theorem lookAlong_any (bS oS bH oH cS cH : Nat) (s : Slb) (key : Int) (c : Nat) (w : World) (hR : SlabZ (some ⟨bS, oS, none⟩) (some ⟨bH, oH, none⟩) s w) (hr : rightSl s = true) (hc : c < s.heads.length) :
    Calls Try.prog 116 #[.agg #[.slice (some ⟨bS, oS, none⟩) s.slots.length cS, .slice (some ⟨bH, oH, none⟩) s.heads.length cH], .int .i64 (c : Int), .func (.func 109) #[.int .i64 key] #[]] w fun e w' => e = .returned (.pointer (some ⟨(adrL bS oS bH oH c (lookC s key c).1).1, (adrL bS oS bH oH c (lookC s key c).1).2, none⟩)) ∧ Below w.heap.size w w' := by
  obtain ⟨hch, hen, hin⟩ := right_chain hr hc
  obtain ⟨_, n1, n2, n3, n4⟩ := right_leads hr
  have HR := hidS hR
  have HCH := hidS hch
  have HIN := hidS hin
  obtain ⟨res, hres⟩ : ∃ res, lookC s key c = res := ⟨_, rfl⟩
  have HRES : Hid (res = lookL s key none (linkV s c none) (chainOf s c).1) := by show _ = _; rw [← hres]; rfl
  rw [hres]
  have hcc : (0 : Int) ≤ (c : Int) ∧ (c : Int) < (s.heads.length : Int) := by omega
  have HC := hidS hc
  clear hR hr hch hin hen hres hc
  have hA0 := hidS (heap_newG w (.cells #[.slice (some ⟨bS, oS, none⟩) s.slots.length cS, .slice (some ⟨bH, oH, none⟩) s.heads.length cH] 26))
  have hb0 := hidS ((Below.refl w.heap.size w).alloc (Nat.le_refl _) (.cells #[.slice (some ⟨bS, oS, none⟩) s.slots.length cS, .slice (some ⟨bH, oH, none⟩) s.heads.length cH] 26))
  go_enter Try.func116, Try.ntmps116
  go_wp2_with fail
  generalize w.alloc (.cells #[.slice (some ⟨bS, oS, none⟩) s.slots.length cS, .slice (some ⟨bH, oH, none⟩) s.heads.length cH] 26) = w0 at hA0 hb0 ⊢
  go_loopg [7] ((chainOf s c).1.length + 1) (fun k v wr => LookI s key c bS oS bH oH res w (.cells #[.slice (some ⟨bS, oS, none⟩) s.slots.length cS, .slice (some ⟨bH, oH, none⟩) s.heads.length cH] 26) k v wr)
  case atStart => exact ⟨none, (chainOf s c).1, rfl, by omega, trivial, HIN.out, HCH.out, HRES.out, hA0.out, hb0.out⟩
  case round =>
    obtain ⟨p, l, rfl, hlen, hp, hin, hch, hre, hA, hb⟩ := hrel
    have hcell := fun (W : World) (h : Below w.heap.size w W) => link_cell (HR.out.later h) HC.out hp
    have HP := hidS hp
    have HA := hidS hA
    have HB := hidS hb
    have HN2 := hidS hin
    have HRE := hidS hre
    have HLN := hidS hlen
    clear hA0 hb0 HCH HIN HRES hp hA hb hin hre hlen
    cases l with
    | nil =>
      have hx : linkV s c p = -1 - (c : Int) := hch
      have hx0 : ¬ (0 : Int) ≤ linkV s c p := by omega
      have hx1 : -1 - (c : Int) < 0 := by omega
      have HRP : Hid (res.1 = p) := by show _ = _; rw [HRE.out]; rfl
      generalize linkV s c p = x at hcell hx hx0
      have HX := hidS hx
      have hd : decide ((0 : Int) ≤ x) = false := decide_eq_false hx0
      clear hx hch hx1 HRE
      generalize hB : (adrL bS oS bH oH c p).1 = B at hcell ⊢
      generalize hO : (adrL bS oS bH oH c p).2 = O at hcell ⊢
      have HBE := hidS hB
      have HOE := hidS hO
      clear hB hO
      have HCELL := hidS hcell
      clear hcell
      go_wp2_with fail
      refine grow_guarded 16 [.is (.pointer (some ⟨B, O, none⟩)), .is (.pointer (some ⟨B, O, none⟩)), .is (.int .i64 x), .is (.bool false), .is (.bool false), .is (undef), .is (undef), .is (undef), .is (undef), .is (undef), .is (undef), .is (undef), .is (undef), .is (undef), .is (undef), .is (.bool false)] rfl (by kernel_rfl) (by kernel_rfl) ?stepse ?fine
      case stepse =>
        refine ⟨?_, ?_, ?_, ?_, ?_, ?_, ?_, ?_, ?_, ?_, ?_, ?_, ?_, ?_, ?_, ?_, trivial⟩
        · refine stepW_of_u ⟨rfl, fun v W ρ hC kc kf ks ki kd => ?_⟩
          have t7 : ρ (.tmp 7) = .pointer (some ⟨B, O, none⟩) := ki 7 (by decide)
          simp [execOp, go_sem, kc, t7]
          exact ⟨hC, Below.refl _ _, rfl⟩
        · refine stepW_of_u ⟨rfl, fun v W ρ hC kc kf ks ki kd => ?_⟩
          have d0 : v 0 = .pointer (some ⟨B, O, none⟩) := (kdj kd 0 rfl :)
          have t12 : ρ (.tmp 12) = .pointer (some ⟨B, O, none⟩) := (ks 0 12 (by decide) rfl).trans d0
          simp [execOp, go_sem, kc, t12]
          exact ⟨hC, Below.refl _ _, rfl⟩
        · refine stepW_of_u ⟨rfl, fun v W ρ hC kc kf ks ki kd => ?_⟩
          have d1 : v 1 = .pointer (some ⟨B, O, none⟩) := (kdj kd 1 rfl :)
          have t13 : ρ (.tmp 13) = .pointer (some ⟨B, O, none⟩) := (ks 1 13 (by decide) rfl).trans d1
          have c0 := (HCELL.out W (HB.out.trans (hC.mono HB.out.size))).2
          simp [execOp, go_sem, kc, t13, c0]
          exact ⟨hC, Below.refl _ _, rfl⟩
        · refine stepW_of_u ⟨rfl, fun v W ρ hC kc kf ks ki kd => ?_⟩
          have d2 : v 2 = .int .i64 x := (kdj kd 2 rfl :)
          have t14 : ρ (.tmp 14) = .int .i64 x := (ks 2 14 (by decide) rfl).trans d2
          simp [execOp, go_sem, kc, t14, hd]
          exact ⟨hC, Below.refl _ _, rfl⟩
        · refine stepW_of_u ⟨rfl, fun v W ρ hC kc kf ks ki kd => ?_⟩
          have d3 : v 3 = .bool false := (kdj kd 3 rfl :)
          have t15 : ρ (.tmp 15) = .bool false := (ks 3 15 (by decide) rfl).trans d3
          simp [execOp, go_sem, kc, t15]
          exact ⟨hC, Below.refl _ _, rfl⟩
        · intro v W ρ y hC kc kf ks ki ky ku kd
          have dg : v 4 = .bool false := (kdj kd 4 rfl :)
          have hy := ky 4 16 false (by decide) rfl dg
          rw [if_neg (by simp [Region.wanted, hy])]
          exact ⟨Below.refl _ _, rfl⟩
        · intro v W ρ y hC kc kf ks ki ky ku kd
          have dg : v 4 = .bool false := (kdj kd 4 rfl :)
          have hy := ky 4 16 false (by decide) rfl dg
          rw [if_neg (by simp [Region.wanted, hy])]
          exact ⟨Below.refl _ _, rfl⟩
        · intro v W ρ y hC kc kf ks ki ky ku kd
          have dg : v 4 = .bool false := (kdj kd 4 rfl :)
          have hy := ky 4 16 false (by decide) rfl dg
          rw [if_neg (by simp [Region.wanted, hy])]
          exact ⟨Below.refl _ _, rfl⟩
        · intro v W ρ y hC kc kf ks ki ky ku kd
          have dg : v 4 = .bool false := (kdj kd 4 rfl :)
          have hy := ky 4 16 false (by decide) rfl dg
          rw [if_neg (by simp [Region.wanted, hy])]
          exact ⟨Below.refl _ _, rfl⟩
        · intro v W ρ y hC kc kf ks ki ky ku kd
          have dg : v 4 = .bool false := (kdj kd 4 rfl :)
          have hy := ky 4 16 false (by decide) rfl dg
          rw [if_neg (by simp [Region.wanted, hy])]
          exact ⟨Below.refl _ _, rfl⟩
        · intro v W ρ y hC kc kf ks ki ky ku kd
          have dg : v 4 = .bool false := (kdj kd 4 rfl :)
          have hy := ky 4 16 false (by decide) rfl dg
          rw [if_neg (by simp [Region.wanted, hy])]
          exact ⟨Below.refl _ _, rfl⟩
        · intro v W ρ y hC kc kf ks ki ky ku kd
          have dg : v 4 = .bool false := (kdj kd 4 rfl :)
          have hy := ky 4 16 false (by decide) rfl dg
          rw [if_neg (by simp [Region.wanted, hy])]
          exact ⟨Below.refl _ _, rfl⟩
        · intro v W ρ y hC kc kf ks ki ky ku kd
          have dg : v 4 = .bool false := (kdj kd 4 rfl :)
          have hy := ky 4 16 false (by decide) rfl dg
          rw [if_neg (by simp [Region.wanted, hy])]
          exact ⟨Below.refl _ _, rfl⟩
        · intro v W ρ y hC kc kf ks ki ky ku kd
          have dg : v 4 = .bool false := (kdj kd 4 rfl :)
          have hy := ky 4 16 false (by decide) rfl dg
          rw [if_neg (by simp [Region.wanted, hy])]
          exact ⟨Below.refl _ _, rfl⟩
        · intro v W ρ y hC kc kf ks ki ky ku kd
          have dg : v 4 = .bool false := (kdj kd 4 rfl :)
          have hy := ky 4 16 false (by decide) rfl dg
          rw [if_neg (by simp [Region.wanted, hy])]
          exact ⟨Below.refl _ _, rfl⟩
        · refine stepW_of_u ⟨rfl, fun v W ρ hC kc kf ks ki kd => ?_⟩
          have d4 : v 4 = .bool false := (kdj kd 4 rfl :)
          have t16 : ρ (.tmp 16) = .bool false := (ks 4 16 (by decide) rfl).trans d4
          simp [execOp, go_sem, kc, t16]
          exact ⟨hC, Below.refl _ _, rfl⟩
      intro ve We hbe hall
      have hve : ve 15 = .bool false := hall 15 (by decide)
      simp [upto, Act.put]
      rw [hve]
      clear hall hve
      have hB2 := hidS (HB.out.trans (hbe.mono HB.out.size))
      clear hbe
      go_wp2_with fail
      go_ret
      exact ⟨by rw [HRP.out, HBE.out, HOE.out]; rfl, hB2.out⟩
    | cons y l =>
      obtain ⟨hy, hch⟩ := hch
      obtain ⟨y0, y1⟩ := HN2.out y (by simp)
      obtain ⟨j, rfl⟩ : ∃ j : Nat, y = (j : Int) := ⟨y.toNat, by omega⟩
      have hj : j < s.slots.length := by omega
      have hjj : (0 : Int) ≤ (j : Int) ∧ (j : Int) < (s.slots.length : Int) := by omega
      have hj0 : (0 : Int) ≤ (j : Int) := hjj.1
      have HSL := hidS (fun W (h : Below w.heap.size w W) => (HR.out.slots.later h).slot hj)
      have HCH2 : Hid (IsChain s c (linkV s c (some (j : Int))) l) := by
        show IsChain s c (nx s (j : Int)) l
        rw [hy]; exact hch
      have HRE2 : Hid (res = if ((s.slots.getD j zeroSlt).key == key) = true then (p, (j : Int)) else lookL s key (some (j : Int)) (linkV s c (some (j : Int))) l) := by
        show _ = _
        rw [HRE.out, ← slot_nat]
        rfl
      have HNX : Hid ((s.slots.getD j zeroSlt).next = nx s (j : Int)) := by show _ = _; unfold nx; rw [Int.toNat_natCast]
      rw [← hy] at hcell
      have HADR : Hid (adrL bS oS bH oH c (some (j : Int)) = (bS, oS + j * 4 + 3)) := by show _ = _; unfold adrL; simp
      generalize s.slots.getD j zeroSlt = x at HSL HRE2 HNX
      have HIS := hidS (fun W => isOf_any key x W)
      have HCELL := hidS hcell
      generalize hB : (adrL bS oS bH oH c p).1 = B at HCELL ⊢
      generalize hO : (adrL bS oS bH oH c p).2 = O at HCELL ⊢
      have HBE := hidS hB
      have HOE := hidS hO
      clear hcell hy hch HRE hB hO
      cases hq : x.key == key
      · rw [hq] at HIS HRE2
        have HRE3 : Hid (res = lookL s key (some (j : Int)) (linkV s c (some (j : Int))) l) := by show _ = _; rw [HRE2.out]; rfl
        clear hq HRE2
        go_wp2_with fail
        refine grow_guarded 16 [.is (.pointer (some ⟨B, O, none⟩)), .is (.pointer (some ⟨B, O, none⟩)), .is (.int .i64 (j : Int)), .is (.bool true), .is (.bool true), .is (.func (.func 109) #[.int .i64 key] #[]), .is (.pointer (some ⟨w.heap.size, 0, none⟩)), .is (.slice (some ⟨bS, oS, none⟩) s.slots.length cS), .is (.pointer (some ⟨B, O, none⟩)), .is (.pointer (some ⟨B, O, none⟩)), .is (.int .i64 (j : Int)), .is (.pointer (some ⟨bS, oS + j * 4, none⟩)), .is (.agg #[.int .i64 x.key, .int .i64 x.gen, .int .i64 x.refs, .int .i64 x.next]), .is (.bool false), .is (.bool true), .is (.bool true)] rfl (by kernel_rfl) (by kernel_rfl) ?stepsn ?finn
        case stepsn =>
          refine ⟨?_, ?_, ?_, ?_, ?_, ?_, ?_, ?_, ?_, ?_, ?_, ?_, ?_, ?_, ?_, ?_, trivial⟩
          · refine stepW_of_u ⟨rfl, fun v W ρ hC kc kf ks ki kd => ?_⟩
            have t7 : ρ (.tmp 7) = .pointer (some ⟨B, O, none⟩) := ki 7 (by decide)
            simp [execOp, go_sem, kc, t7]
            exact ⟨hC, Below.refl _ _, rfl⟩
          · refine stepW_of_u ⟨rfl, fun v W ρ hC kc kf ks ki kd => ?_⟩
            have d0 : v 0 = .pointer (some ⟨B, O, none⟩) := (kdj kd 0 rfl :)
            have t12 : ρ (.tmp 12) = .pointer (some ⟨B, O, none⟩) := (ks 0 12 (by decide) rfl).trans d0
            simp [execOp, go_sem, kc, t12]
            exact ⟨hC, Below.refl _ _, rfl⟩
          · refine stepW_of_u ⟨rfl, fun v W ρ hC kc kf ks ki kd => ?_⟩
            have d1 : v 1 = .pointer (some ⟨B, O, none⟩) := (kdj kd 1 rfl :)
            have t13 : ρ (.tmp 13) = .pointer (some ⟨B, O, none⟩) := (ks 1 13 (by decide) rfl).trans d1
            have c0 := (HCELL.out W (HB.out.trans (hC.mono HB.out.size))).2
            simp [execOp, go_sem, kc, t13, c0]
            exact ⟨hC, Below.refl _ _, rfl⟩
          · refine stepW_of_u ⟨rfl, fun v W ρ hC kc kf ks ki kd => ?_⟩
            have d2 : v 2 = .int .i64 (j : Int) := (kdj kd 2 rfl :)
            have t14 : ρ (.tmp 14) = .int .i64 (j : Int) := (ks 2 14 (by decide) rfl).trans d2
            simp [execOp, go_sem, kc, t14, hj0]
            exact ⟨hC, Below.refl _ _, rfl⟩
          · refine stepW_of_u ⟨rfl, fun v W ρ hC kc kf ks ki kd => ?_⟩
            have d3 : v 3 = .bool true := (kdj kd 3 rfl :)
            have t15 : ρ (.tmp 15) = .bool true := (ks 3 15 (by decide) rfl).trans d3
            simp [execOp, go_sem, kc, t15]
            exact ⟨hC, Below.refl _ _, rfl⟩
          · intro v W ρ y hC kc kf ks ki ky ku kd
            have dg : v 4 = .bool true := (kdj kd 4 rfl :)
            have hy := ky 4 16 true (by decide) rfl dg
            rw [if_pos (by simp [Region.wanted, hy])]
            have t2 : ρ (.tmp 2) = .func (.func 109) #[.int .i64 key] #[] := ki 2 (by decide)
            simp [execOp, go_sem, kc, t2]
            exact ⟨hC, Below.refl _ _, rfl⟩
          · intro v W ρ y hC kc kf ks ki ky ku kd
            have dg : v 4 = .bool true := (kdj kd 4 rfl :)
            have hy := ky 4 16 true (by decide) rfl dg
            rw [if_pos (by simp [Region.wanted, hy])]
            have t3 : ρ (.tmp 3) = .pointer (some ⟨w.heap.size, 0, none⟩) := ki 3 (by decide)
            simp [execOp, go_sem, kc, t3]
            exact ⟨hC, Below.refl _ _, rfl⟩
          · intro v W ρ y hC kc kf ks ki ky ku kd
            have dg : v 4 = .bool true := (kdj kd 4 rfl :)
            have hy := ky 4 16 true (by decide) rfl dg
            rw [if_pos (by simp [Region.wanted, hy])]
            have d6 : v 6 = .pointer (some ⟨w.heap.size, 0, none⟩) := (kdj kd 6 rfl :)
            have t18 : ρ (.tmp 18) = .pointer (some ⟨w.heap.size, 0, none⟩) := (ks 6 18 (by decide) rfl).trans d6
            have hg := blk_later HA.out hC
            have c0 := blk_cell hg 0
            simp at c0
            simp [execOp, go_sem, kc, t18, c0]
            exact ⟨hC, Below.refl _ _, rfl⟩
          · intro v W ρ y hC kc kf ks ki ky ku kd
            have dg : v 4 = .bool true := (kdj kd 4 rfl :)
            have hy := ky 4 16 true (by decide) rfl dg
            rw [if_pos (by simp [Region.wanted, hy])]
            have t7 : ρ (.tmp 7) = .pointer (some ⟨B, O, none⟩) := ki 7 (by decide)
            simp [execOp, go_sem, kc, t7]
            exact ⟨hC, Below.refl _ _, rfl⟩
          · intro v W ρ y hC kc kf ks ki ky ku kd
            have dg : v 4 = .bool true := (kdj kd 4 rfl :)
            have hy := ky 4 16 true (by decide) rfl dg
            rw [if_pos (by simp [Region.wanted, hy])]
            have d8 : v 8 = .pointer (some ⟨B, O, none⟩) := (kdj kd 8 rfl :)
            have t20 : ρ (.tmp 20) = .pointer (some ⟨B, O, none⟩) := (ks 8 20 (by decide) rfl).trans d8
            simp [execOp, go_sem, kc, t20]
            exact ⟨hC, Below.refl _ _, rfl⟩
          · intro v W ρ y hC kc kf ks ki ky ku kd
            have dg : v 4 = .bool true := (kdj kd 4 rfl :)
            have hy := ky 4 16 true (by decide) rfl dg
            rw [if_pos (by simp [Region.wanted, hy])]
            have d9 : v 9 = .pointer (some ⟨B, O, none⟩) := (kdj kd 9 rfl :)
            have t21 : ρ (.tmp 21) = .pointer (some ⟨B, O, none⟩) := (ks 9 21 (by decide) rfl).trans d9
            have c0 := (HCELL.out W (HB.out.trans (hC.mono HB.out.size))).2
            simp [execOp, go_sem, kc, t21, c0]
            exact ⟨hC, Below.refl _ _, rfl⟩
          · intro v W ρ y hC kc kf ks ki ky ku kd
            have dg : v 4 = .bool true := (kdj kd 4 rfl :)
            have hy := ky 4 16 true (by decide) rfl dg
            rw [if_pos (by simp [Region.wanted, hy])]
            have d7 : v 7 = .slice (some ⟨bS, oS, none⟩) s.slots.length cS := (kdj kd 7 rfl :)
            have t19 : ρ (.tmp 19) = .slice (some ⟨bS, oS, none⟩) s.slots.length cS := (ks 7 19 (by decide) rfl).trans d7
            have d10 : v 10 = .int .i64 (j : Int) := (kdj kd 10 rfl :)
            have t22 : ρ (.tmp 22) = .int .i64 (j : Int) := (ks 10 22 (by decide) rfl).trans d10
            simp [execOp, go_sem, kc, t19, t22, hjj]
            exact ⟨hC, Below.refl _ _, rfl⟩
          · intro v W ρ y hC kc kf ks ki ky ku kd
            have dg : v 4 = .bool true := (kdj kd 4 rfl :)
            have hy := ky 4 16 true (by decide) rfl dg
            rw [if_pos (by simp [Region.wanted, hy])]
            have d11 : v 11 = .pointer (some ⟨bS, oS + j * 4, none⟩) := (kdj kd 11 rfl :)
            have t23 : ρ (.tmp 23) = .pointer (some ⟨bS, oS + j * 4, none⟩) := (ks 11 23 (by decide) rfl).trans d11
            obtain ⟨b', o', eS, lS, c0, c1, c2, c3⟩ := HSL.out W (HB.out.trans (hC.mono HB.out.size))
            injection eS with eS; injection eS with eS1 eS2
            subst eS1 eS2
            simp [execOp, go_sem, kc, t23, c0, c1, c2, c3]
            exact ⟨hC, Below.refl _ _, rfl⟩
          · intro v W ρ y hC kc kf ks ki ky ku kd
            have dg : v 4 = .bool true := (kdj kd 4 rfl :)
            have hy := ky 4 16 true (by decide) rfl dg
            rw [if_pos (by simp [Region.wanted, hy])]
            have d5 : v 5 = .func (.func 109) #[.int .i64 key] #[] := (kdj kd 5 rfl :)
            have t17 : ρ (.tmp 17) = .func (.func 109) #[.int .i64 key] #[] := (ks 5 17 (by decide) rfl).trans d5
            have d12 : v 12 = .agg #[.int .i64 x.key, .int .i64 x.gen, .int .i64 x.refs, .int .i64 x.next] := (kdj kd 12 rfl :)
            have t24 : ρ (.tmp 24) = .agg #[.int .i64 x.key, .int .i64 x.gen, .int .i64 x.refs, .int .i64 x.next] := (ks 12 24 (by decide) rfl).trans d12
            simp [execOp, go_sem, t17, t24, kf]
            exact Calls.mono (HIS.out W) (fun e x h => ⟨_, h.1, hC.trans (h.2.mono hC.size), h.2, rfl⟩)
          · intro v W ρ y hC kc kf ks ki ky ku kd
            have dg : v 4 = .bool true := (kdj kd 4 rfl :)
            have hy := ky 4 16 true (by decide) rfl dg
            rw [if_pos (by simp [Region.wanted, hy])]
            have d13 : v 13 = .bool false := (kdj kd 13 rfl :)
            have t25 : ρ (.tmp 25) = .bool false := (ks 13 25 (by decide) rfl).trans d13
            simp [execOp, go_sem, kc, t25]
            exact ⟨hC, Below.refl _ _, rfl⟩
          · refine stepW_of_u ⟨rfl, fun v W ρ hC kc kf ks ki kd => ?_⟩
            have d4 : v 4 = .bool true := (kdj kd 4 rfl :)
            have t16 : ρ (.tmp 16) = .bool true := (ks 4 16 (by decide) rfl).trans d4
            have d14 : v 14 = .bool true := (kdj kd 14 rfl :)
            have t26 : ρ (.tmp 26) = .bool true := (ks 14 26 (by decide) rfl).trans d14
            simp [execOp, go_sem, kc, t16, t26]
            exact ⟨hC, Below.refl _ _, rfl⟩
        intro vn Wn hbn hall
        have hvn : vn 15 = .bool true := hall 15 (by decide)
        simp [upto, Act.put]
        rw [hvn]
        clear hall hvn
        have hB2 := hidS (HB.out.trans (hbn.mono HB.out.size))
        have hA2 := hidS (blk_later HA.out hbn)
        clear hbn
        have a0 := blk_cell hA2.out 0
        simp at a0
        have c0 := (HCELL.out _ hB2.out).2
        go_wp2_with fail
        go_quiet (fail)
        go_wp2_with fail
        go_roundg (l.length + 1)
        case measure => have := HLN.out; simp at this; omega
        case rel => exact ⟨some (j : Int), l, by rw [HADR.out], by omega, ⟨hjj.1, hjj.2⟩, fun z hz => HN2.out z (List.mem_cons_of_mem _ hz), HCH2.out, HRE3.out, hA2.out, below_drewN hB2.out _⟩
      · rw [hq] at HIS HRE2
        have HRP : Hid (res.1 = p) := by show _ = _; rw [HRE2.out]; rfl
        clear hq HRE2
        go_wp2_with fail
        refine grow_guarded 16 [.is (.pointer (some ⟨B, O, none⟩)), .is (.pointer (some ⟨B, O, none⟩)), .is (.int .i64 (j : Int)), .is (.bool true), .is (.bool true), .is (.func (.func 109) #[.int .i64 key] #[]), .is (.pointer (some ⟨w.heap.size, 0, none⟩)), .is (.slice (some ⟨bS, oS, none⟩) s.slots.length cS), .is (.pointer (some ⟨B, O, none⟩)), .is (.pointer (some ⟨B, O, none⟩)), .is (.int .i64 (j : Int)), .is (.pointer (some ⟨bS, oS + j * 4, none⟩)), .is (.agg #[.int .i64 x.key, .int .i64 x.gen, .int .i64 x.refs, .int .i64 x.next]), .is (.bool true), .is (.bool false), .is (.bool false)] rfl (by kernel_rfl) (by kernel_rfl) ?stepsy ?finy
        case stepsy =>
          refine ⟨?_, ?_, ?_, ?_, ?_, ?_, ?_, ?_, ?_, ?_, ?_, ?_, ?_, ?_, ?_, ?_, trivial⟩
          · refine stepW_of_u ⟨rfl, fun v W ρ hC kc kf ks ki kd => ?_⟩
            have t7 : ρ (.tmp 7) = .pointer (some ⟨B, O, none⟩) := ki 7 (by decide)
            simp [execOp, go_sem, kc, t7]
            exact ⟨hC, Below.refl _ _, rfl⟩
          · refine stepW_of_u ⟨rfl, fun v W ρ hC kc kf ks ki kd => ?_⟩
            have d0 : v 0 = .pointer (some ⟨B, O, none⟩) := (kdj kd 0 rfl :)
            have t12 : ρ (.tmp 12) = .pointer (some ⟨B, O, none⟩) := (ks 0 12 (by decide) rfl).trans d0
            simp [execOp, go_sem, kc, t12]
            exact ⟨hC, Below.refl _ _, rfl⟩
          · refine stepW_of_u ⟨rfl, fun v W ρ hC kc kf ks ki kd => ?_⟩
            have d1 : v 1 = .pointer (some ⟨B, O, none⟩) := (kdj kd 1 rfl :)
            have t13 : ρ (.tmp 13) = .pointer (some ⟨B, O, none⟩) := (ks 1 13 (by decide) rfl).trans d1
            have c0 := (HCELL.out W (HB.out.trans (hC.mono HB.out.size))).2
            simp [execOp, go_sem, kc, t13, c0]
            exact ⟨hC, Below.refl _ _, rfl⟩
          · refine stepW_of_u ⟨rfl, fun v W ρ hC kc kf ks ki kd => ?_⟩
            have d2 : v 2 = .int .i64 (j : Int) := (kdj kd 2 rfl :)
            have t14 : ρ (.tmp 14) = .int .i64 (j : Int) := (ks 2 14 (by decide) rfl).trans d2
            simp [execOp, go_sem, kc, t14, hj0]
            exact ⟨hC, Below.refl _ _, rfl⟩
          · refine stepW_of_u ⟨rfl, fun v W ρ hC kc kf ks ki kd => ?_⟩
            have d3 : v 3 = .bool true := (kdj kd 3 rfl :)
            have t15 : ρ (.tmp 15) = .bool true := (ks 3 15 (by decide) rfl).trans d3
            simp [execOp, go_sem, kc, t15]
            exact ⟨hC, Below.refl _ _, rfl⟩
          · intro v W ρ y hC kc kf ks ki ky ku kd
            have dg : v 4 = .bool true := (kdj kd 4 rfl :)
            have hy := ky 4 16 true (by decide) rfl dg
            rw [if_pos (by simp [Region.wanted, hy])]
            have t2 : ρ (.tmp 2) = .func (.func 109) #[.int .i64 key] #[] := ki 2 (by decide)
            simp [execOp, go_sem, kc, t2]
            exact ⟨hC, Below.refl _ _, rfl⟩
          · intro v W ρ y hC kc kf ks ki ky ku kd
            have dg : v 4 = .bool true := (kdj kd 4 rfl :)
            have hy := ky 4 16 true (by decide) rfl dg
            rw [if_pos (by simp [Region.wanted, hy])]
            have t3 : ρ (.tmp 3) = .pointer (some ⟨w.heap.size, 0, none⟩) := ki 3 (by decide)
            simp [execOp, go_sem, kc, t3]
            exact ⟨hC, Below.refl _ _, rfl⟩
          · intro v W ρ y hC kc kf ks ki ky ku kd
            have dg : v 4 = .bool true := (kdj kd 4 rfl :)
            have hy := ky 4 16 true (by decide) rfl dg
            rw [if_pos (by simp [Region.wanted, hy])]
            have d6 : v 6 = .pointer (some ⟨w.heap.size, 0, none⟩) := (kdj kd 6 rfl :)
            have t18 : ρ (.tmp 18) = .pointer (some ⟨w.heap.size, 0, none⟩) := (ks 6 18 (by decide) rfl).trans d6
            have hg := blk_later HA.out hC
            have c0 := blk_cell hg 0
            simp at c0
            simp [execOp, go_sem, kc, t18, c0]
            exact ⟨hC, Below.refl _ _, rfl⟩
          · intro v W ρ y hC kc kf ks ki ky ku kd
            have dg : v 4 = .bool true := (kdj kd 4 rfl :)
            have hy := ky 4 16 true (by decide) rfl dg
            rw [if_pos (by simp [Region.wanted, hy])]
            have t7 : ρ (.tmp 7) = .pointer (some ⟨B, O, none⟩) := ki 7 (by decide)
            simp [execOp, go_sem, kc, t7]
            exact ⟨hC, Below.refl _ _, rfl⟩
          · intro v W ρ y hC kc kf ks ki ky ku kd
            have dg : v 4 = .bool true := (kdj kd 4 rfl :)
            have hy := ky 4 16 true (by decide) rfl dg
            rw [if_pos (by simp [Region.wanted, hy])]
            have d8 : v 8 = .pointer (some ⟨B, O, none⟩) := (kdj kd 8 rfl :)
            have t20 : ρ (.tmp 20) = .pointer (some ⟨B, O, none⟩) := (ks 8 20 (by decide) rfl).trans d8
            simp [execOp, go_sem, kc, t20]
            exact ⟨hC, Below.refl _ _, rfl⟩
          · intro v W ρ y hC kc kf ks ki ky ku kd
            have dg : v 4 = .bool true := (kdj kd 4 rfl :)
            have hy := ky 4 16 true (by decide) rfl dg
            rw [if_pos (by simp [Region.wanted, hy])]
            have d9 : v 9 = .pointer (some ⟨B, O, none⟩) := (kdj kd 9 rfl :)
            have t21 : ρ (.tmp 21) = .pointer (some ⟨B, O, none⟩) := (ks 9 21 (by decide) rfl).trans d9
            have c0 := (HCELL.out W (HB.out.trans (hC.mono HB.out.size))).2
            simp [execOp, go_sem, kc, t21, c0]
            exact ⟨hC, Below.refl _ _, rfl⟩
          · intro v W ρ y hC kc kf ks ki ky ku kd
            have dg : v 4 = .bool true := (kdj kd 4 rfl :)
            have hy := ky 4 16 true (by decide) rfl dg
            rw [if_pos (by simp [Region.wanted, hy])]
            have d7 : v 7 = .slice (some ⟨bS, oS, none⟩) s.slots.length cS := (kdj kd 7 rfl :)
            have t19 : ρ (.tmp 19) = .slice (some ⟨bS, oS, none⟩) s.slots.length cS := (ks 7 19 (by decide) rfl).trans d7
            have d10 : v 10 = .int .i64 (j : Int) := (kdj kd 10 rfl :)
            have t22 : ρ (.tmp 22) = .int .i64 (j : Int) := (ks 10 22 (by decide) rfl).trans d10
            simp [execOp, go_sem, kc, t19, t22, hjj]
            exact ⟨hC, Below.refl _ _, rfl⟩
          · intro v W ρ y hC kc kf ks ki ky ku kd
            have dg : v 4 = .bool true := (kdj kd 4 rfl :)
            have hy := ky 4 16 true (by decide) rfl dg
            rw [if_pos (by simp [Region.wanted, hy])]
            have d11 : v 11 = .pointer (some ⟨bS, oS + j * 4, none⟩) := (kdj kd 11 rfl :)
            have t23 : ρ (.tmp 23) = .pointer (some ⟨bS, oS + j * 4, none⟩) := (ks 11 23 (by decide) rfl).trans d11
            obtain ⟨b', o', eS, lS, c0, c1, c2, c3⟩ := HSL.out W (HB.out.trans (hC.mono HB.out.size))
            injection eS with eS; injection eS with eS1 eS2
            subst eS1 eS2
            simp [execOp, go_sem, kc, t23, c0, c1, c2, c3]
            exact ⟨hC, Below.refl _ _, rfl⟩
          · intro v W ρ y hC kc kf ks ki ky ku kd
            have dg : v 4 = .bool true := (kdj kd 4 rfl :)
            have hy := ky 4 16 true (by decide) rfl dg
            rw [if_pos (by simp [Region.wanted, hy])]
            have d5 : v 5 = .func (.func 109) #[.int .i64 key] #[] := (kdj kd 5 rfl :)
            have t17 : ρ (.tmp 17) = .func (.func 109) #[.int .i64 key] #[] := (ks 5 17 (by decide) rfl).trans d5
            have d12 : v 12 = .agg #[.int .i64 x.key, .int .i64 x.gen, .int .i64 x.refs, .int .i64 x.next] := (kdj kd 12 rfl :)
            have t24 : ρ (.tmp 24) = .agg #[.int .i64 x.key, .int .i64 x.gen, .int .i64 x.refs, .int .i64 x.next] := (ks 12 24 (by decide) rfl).trans d12
            simp [execOp, go_sem, t17, t24, kf]
            exact Calls.mono (HIS.out W) (fun e x h => ⟨_, h.1, hC.trans (h.2.mono hC.size), h.2, rfl⟩)
          · intro v W ρ y hC kc kf ks ki ky ku kd
            have dg : v 4 = .bool true := (kdj kd 4 rfl :)
            have hy := ky 4 16 true (by decide) rfl dg
            rw [if_pos (by simp [Region.wanted, hy])]
            have d13 : v 13 = .bool true := (kdj kd 13 rfl :)
            have t25 : ρ (.tmp 25) = .bool true := (ks 13 25 (by decide) rfl).trans d13
            simp [execOp, go_sem, kc, t25]
            exact ⟨hC, Below.refl _ _, rfl⟩
          · refine stepW_of_u ⟨rfl, fun v W ρ hC kc kf ks ki kd => ?_⟩
            have d4 : v 4 = .bool true := (kdj kd 4 rfl :)
            have t16 : ρ (.tmp 16) = .bool true := (ks 4 16 (by decide) rfl).trans d4
            have d14 : v 14 = .bool false := (kdj kd 14 rfl :)
            have t26 : ρ (.tmp 26) = .bool false := (ks 14 26 (by decide) rfl).trans d14
            simp [execOp, go_sem, kc, t16, t26]
            exact ⟨hC, Below.refl _ _, rfl⟩
        intro vy Wy hby hall
        have hvy : vy 15 = .bool false := hall 15 (by decide)
        simp [upto, Act.put]
        rw [hvy]
        clear hall hvy
        have hB2 := hidS (HB.out.trans (hby.mono HB.out.size))
        clear hby
        go_wp2_with fail
        go_ret
        exact ⟨by rw [HRP.out, HBE.out, HOE.out]; rfl, hB2.out⟩
end Go.Proofs.Ytfjgofmjhccdkaa
