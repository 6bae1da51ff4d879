/- Proved here: impl.WalkNew answers as the plain function, in memory of its own; all old memory stays (conditions: the slab's rows can be read; at most 2^20 numbers; numbers of int64). -/
import Derived.Test.YtfjgofmjhccdkaaWalkRI
import Derived.Test.YtfjgofmjhccdkaaAll31
import Derived.Test.YtfjgofmjhccdkaaAll13
import Derived.Test.YtfjgofmjhccdkaaAll2
namespace Go.Proofs.Ytfjgofmjhccdkaa
open Go.ChangeShapes Go.WideShapes Go.ChangeAt Go.RowKit
set_option linter.unusedVariables false
set_option linter.unusedSimpArgs false
set_option maxRecDepth 100000

set_option maxHeartbeats 4000000 in
theorem implWalkNew_any (aS aH : Option Addr) (cS cH : Nat) (s : Slb) (key : Int) (w : World) (hR : SlabZ aS aH s w) (hF : SlabFit s) (h1 : s.slots.length ≤ 1048576) (h2 : s.heads.length ≤ 1048576) :
    Calls Try.prog 7 #[.agg #[.slice aS s.slots.length cS, .slice aH s.heads.length cH], .int .i64 key] w fun e w' => WkAns (newWS s key) (newWW s key) (newC s key) w e w' := by
  have HS := hidS (fun W (h : Below w.heap.size w W) => implSlabRight_any aS aH cS cH s W (hR.later h) hF h1 h2)
  have HK := hidS (fun W => implIsKey_any key W)
  cases hr : rightSl s
  · have EC : newC s key = 1 := by unfold newC; rw [hr]; rfl
    have E1 : newWS s key = ⟨[], []⟩ := by unfold newWS; rw [EC, if_neg (by decide)]
    have E2 : newWW s key = zeroW := by unfold newWW; rw [EC, if_neg (by decide)]
    rw [E1, E2, EC]
    refine Calls.mono (R := fun e w' => e = .returned (.agg #[.slice none 0 0, .slice none 0 0, .int .i64 0, .int .i64 0, .int .i64 0, .int .i64 0, .int .i64 0, .int .i64 0, .int .i64 0, .int .i64 1]) ∧ Below w.heap.size w w') ?_ (fun e x h => ill_walk h)
    rw [hr] at HS
    clear EC E1 E2 hR hr
    have hGA0 : Hid (((w.alloc (.cells #[.slice aS s.slots.length cS, .slice aH s.heads.length cH] 26)).alloc (.cells #[.slice none 0 0, .slice none 0 0, .int .i64 0, .int .i64 0, .int .i64 0, .int .i64 0, .int .i64 0, .int .i64 0, .int .i64 0, .int .i64 0] 32)).heap[w.heap.size]? = some (.cells #[.slice aS s.slots.length cS, .slice aH s.heads.length cH] 26)) := by
      show _ = _
      have := blk_alloc (heap_newG w (.cells #[.slice aS s.slots.length cS, .slice aH s.heads.length cH] 26)) (.cells #[.slice none 0 0, .slice none 0 0, .int .i64 0, .int .i64 0, .int .i64 0, .int .i64 0, .int .i64 0, .int .i64 0, .int .i64 0, .int .i64 0] 32)
      simpa using this
    have hGR0 : Hid (((w.alloc (.cells #[.slice aS s.slots.length cS, .slice aH s.heads.length cH] 26)).alloc (.cells #[.slice none 0 0, .slice none 0 0, .int .i64 0, .int .i64 0, .int .i64 0, .int .i64 0, .int .i64 0, .int .i64 0, .int .i64 0, .int .i64 0] 32)).heap[w.heap.size + 1]? = some (.cells #[.slice none 0 0, .slice none 0 0, .int .i64 0, .int .i64 0, .int .i64 0, .int .i64 0, .int .i64 0, .int .i64 0, .int .i64 0, .int .i64 0] 32)) := by
      show _ = _
      have := heap_newG (w.alloc (.cells #[.slice aS s.slots.length cS, .slice aH s.heads.length cH] 26)) (.cells #[.slice none 0 0, .slice none 0 0, .int .i64 0, .int .i64 0, .int .i64 0, .int .i64 0, .int .i64 0, .int .i64 0, .int .i64 0, .int .i64 0] 32)
      simpa using this
    have hL0 := hidS (((Below.refl w.heap.size w).alloc (Nat.le_refl _) (.cells #[.slice aS s.slots.length cS, .slice aH s.heads.length cH] 26)).alloc (by simp) (.cells #[.slice none 0 0, .slice none 0 0, .int .i64 0, .int .i64 0, .int .i64 0, .int .i64 0, .int .i64 0, .int .i64 0, .int .i64 0, .int .i64 0] 32))
    go_enter Try.func7, Try.ntmps7
    go_wp2_with fail
    refine (HS.out _ hL0.out).mono ?_
    rintro _ w1 ⟨rfl, hb1⟩
    have hGA1 := hidS (blk_later hGA0.out hb1)
    have hGR1 := hidS (blk_later hGR0.out hb1)
    have hL1 := hidS (hL0.out.trans (hb1.mono hL0.out.size))
    clear hb1 hL0 hGA0 hGR0
    have cA0 := blk_cell hGA1.out 0
    have cA1 := blk_cell hGA1.out 1
    simp at cA0 cA1
    have kR := blk_cell hGR1.out
    have fR := blk_free hGR1.out
    go_wp2_with fail
    refine bodyPost_ret (v := .agg #[.slice none 0 0, .slice none 0 0, .int .i64 0, .int .i64 0, .int .i64 0, .int .i64 0, .int .i64 0, .int .i64 0, .int .i64 0, .int .i64 1]) (by simp [results, Try.results7, go_sem, *]) rfl ⟨rfl, ?_⟩
    repeat (refine below_at ?_ (by omega))
    exact hL1.out
  rw [hr] at HS
  cases hk : keyB key
  · have EC : newC s key = 1 := by unfold newC; rw [hr, hk]; rfl
    have E1 : newWS s key = ⟨[], []⟩ := by unfold newWS; rw [EC, if_neg (by decide)]
    have E2 : newWW s key = zeroW := by unfold newWW; rw [EC, if_neg (by decide)]
    rw [E1, E2, EC]
    refine Calls.mono (R := fun e w' => e = .returned (.agg #[.slice none 0 0, .slice none 0 0, .int .i64 0, .int .i64 0, .int .i64 0, .int .i64 0, .int .i64 0, .int .i64 0, .int .i64 0, .int .i64 1]) ∧ Below w.heap.size w w') ?_ (fun e x h => ill_walk h)
    rw [hk] at HK
    clear EC E1 E2 hR hr hk
    have hGA0 : Hid (((w.alloc (.cells #[.slice aS s.slots.length cS, .slice aH s.heads.length cH] 26)).alloc (.cells #[.slice none 0 0, .slice none 0 0, .int .i64 0, .int .i64 0, .int .i64 0, .int .i64 0, .int .i64 0, .int .i64 0, .int .i64 0, .int .i64 0] 32)).heap[w.heap.size]? = some (.cells #[.slice aS s.slots.length cS, .slice aH s.heads.length cH] 26)) := by
      show _ = _
      have := blk_alloc (heap_newG w (.cells #[.slice aS s.slots.length cS, .slice aH s.heads.length cH] 26)) (.cells #[.slice none 0 0, .slice none 0 0, .int .i64 0, .int .i64 0, .int .i64 0, .int .i64 0, .int .i64 0, .int .i64 0, .int .i64 0, .int .i64 0] 32)
      simpa using this
    have hGR0 : Hid (((w.alloc (.cells #[.slice aS s.slots.length cS, .slice aH s.heads.length cH] 26)).alloc (.cells #[.slice none 0 0, .slice none 0 0, .int .i64 0, .int .i64 0, .int .i64 0, .int .i64 0, .int .i64 0, .int .i64 0, .int .i64 0, .int .i64 0] 32)).heap[w.heap.size + 1]? = some (.cells #[.slice none 0 0, .slice none 0 0, .int .i64 0, .int .i64 0, .int .i64 0, .int .i64 0, .int .i64 0, .int .i64 0, .int .i64 0, .int .i64 0] 32)) := by
      show _ = _
      have := heap_newG (w.alloc (.cells #[.slice aS s.slots.length cS, .slice aH s.heads.length cH] 26)) (.cells #[.slice none 0 0, .slice none 0 0, .int .i64 0, .int .i64 0, .int .i64 0, .int .i64 0, .int .i64 0, .int .i64 0, .int .i64 0, .int .i64 0] 32)
      simpa using this
    have hL0 := hidS (((Below.refl w.heap.size w).alloc (Nat.le_refl _) (.cells #[.slice aS s.slots.length cS, .slice aH s.heads.length cH] 26)).alloc (by simp) (.cells #[.slice none 0 0, .slice none 0 0, .int .i64 0, .int .i64 0, .int .i64 0, .int .i64 0, .int .i64 0, .int .i64 0, .int .i64 0, .int .i64 0] 32))
    go_enter Try.func7, Try.ntmps7
    go_wp2_with fail
    refine (HS.out _ hL0.out).mono ?_
    rintro _ w1 ⟨rfl, hb1⟩
    have hGA1 := hidS (blk_later hGA0.out hb1)
    have hGR1 := hidS (blk_later hGR0.out hb1)
    have hL1 := hidS (hL0.out.trans (hb1.mono hL0.out.size))
    clear hb1 hL0 hGA0 hGR0
    have cA0 := blk_cell hGA1.out 0
    have cA1 := blk_cell hGA1.out 1
    simp at cA0 cA1
    go_wp2_with fail
    refine (HK.out _).mono ?_
    rintro _ v ⟨rfl, hv⟩
    rw [hv]
    clear hv v
    have cA0 := blk_cell hGA1.out 0
    have cA1 := blk_cell hGA1.out 1
    simp at cA0 cA1
    have kR := blk_cell hGR1.out
    have fR := blk_free hGR1.out
    go_wp2_with fail
    refine bodyPost_ret (v := .agg #[.slice none 0 0, .slice none 0 0, .int .i64 0, .int .i64 0, .int .i64 0, .int .i64 0, .int .i64 0, .int .i64 0, .int .i64 0, .int .i64 1]) (by simp [results, Try.results7, go_sem, *]) rfl ⟨rfl, ?_⟩
    repeat (refine below_at ?_ (by omega))
    exact hL1.out
  rw [hk] at HK
  have EC : newC s key = 0 := by unfold newC; rw [hr, hk]; rfl
  have E1 : newWS s key = s := by unfold newWS; rw [EC, if_pos rfl]
  have E2 : newWW s key = ⟨key, hdK s key, 0, 0, 0, 0, 0⟩ := by unfold newWW; rw [EC, if_pos rfl]
  rw [E1, E2, EC]
  clear EC E1 E2
  obtain ⟨_, n1, n2, n3, n4⟩ := right_leads hr
  obtain ⟨k0, k9⟩ : 0 ≤ key ∧ key ≤ 999 := by unfold keyB at hk; simpa using hk
  obtain ⟨bS, oS, rfl, _⟩ := hR.slots.slot (show 0 < s.slots.length by omega)
  obtain ⟨bH, oH, rfl, _⟩ := hR.heads 0 (by omega)
  have HCP := hidS (fun W (h : Below w.heap.size w W) => copySlab_any bS oS bH oH cS cH s W (hR.later h) n1 n2 n3 n4)
  have HCF := hidS (fun W => chainFor_any (some ⟨bS, oS, none⟩) (some ⟨bH, oH, none⟩) s.slots.length cS s.heads.length cH key W k0 k9 h2 n3)
  obtain ⟨hcl, hmod⟩ := chN_lt (s := s) k0 n3
  unfold hdK
  rw [← hmod] at HCF
  generalize chN s key = c at hcl HCF ⊢
  have hcc : (0 : Int) ≤ (c : Int) ∧ (c : Int) < (s.heads.length : Int) := by omega
  have HCL := hidS (fun W (h : Below w.heap.size w W) => (hR.later h).heads c hcl)
  generalize s.heads.getD c 0 = hd at HCL ⊢
  have N1 := hidS n1
  have N3 := hidS n3
  clear hR hr hk h1 h2 hF hmod
  have hGA0 : Hid (((w.alloc (.cells #[.slice (some ⟨bS, oS, none⟩) s.slots.length cS, .slice (some ⟨bH, oH, none⟩) s.heads.length cH] 26)).alloc (.cells #[.slice none 0 0, .slice none 0 0, .int .i64 0, .int .i64 0, .int .i64 0, .int .i64 0, .int .i64 0, .int .i64 0, .int .i64 0, .int .i64 0] 32)).heap[w.heap.size]? = some (.cells #[.slice (some ⟨bS, oS, none⟩) s.slots.length cS, .slice (some ⟨bH, oH, none⟩) s.heads.length cH] 26)) := by
    show _ = _
    have := blk_alloc (heap_newG w (.cells #[.slice (some ⟨bS, oS, none⟩) s.slots.length cS, .slice (some ⟨bH, oH, none⟩) s.heads.length cH] 26)) (.cells #[.slice none 0 0, .slice none 0 0, .int .i64 0, .int .i64 0, .int .i64 0, .int .i64 0, .int .i64 0, .int .i64 0, .int .i64 0, .int .i64 0] 32)
    simpa using this
  have hGR0 : Hid (((w.alloc (.cells #[.slice (some ⟨bS, oS, none⟩) s.slots.length cS, .slice (some ⟨bH, oH, none⟩) s.heads.length cH] 26)).alloc (.cells #[.slice none 0 0, .slice none 0 0, .int .i64 0, .int .i64 0, .int .i64 0, .int .i64 0, .int .i64 0, .int .i64 0, .int .i64 0, .int .i64 0] 32)).heap[w.heap.size + 1]? = some (.cells #[.slice none 0 0, .slice none 0 0, .int .i64 0, .int .i64 0, .int .i64 0, .int .i64 0, .int .i64 0, .int .i64 0, .int .i64 0, .int .i64 0] 32)) := by
    show _ = _
    have := heap_newG (w.alloc (.cells #[.slice (some ⟨bS, oS, none⟩) s.slots.length cS, .slice (some ⟨bH, oH, none⟩) s.heads.length cH] 26)) (.cells #[.slice none 0 0, .slice none 0 0, .int .i64 0, .int .i64 0, .int .i64 0, .int .i64 0, .int .i64 0, .int .i64 0, .int .i64 0, .int .i64 0] 32)
    simpa using this
  have hL0 := hidS (((Below.refl w.heap.size w).alloc (Nat.le_refl _) (.cells #[.slice (some ⟨bS, oS, none⟩) s.slots.length cS, .slice (some ⟨bH, oH, none⟩) s.heads.length cH] 26)).alloc (by simp) (.cells #[.slice none 0 0, .slice none 0 0, .int .i64 0, .int .i64 0, .int .i64 0, .int .i64 0, .int .i64 0, .int .i64 0, .int .i64 0, .int .i64 0] 32))
  go_enter Try.func7, Try.ntmps7
  go_wp2_with fail
  refine (HS.out _ hL0.out).mono ?_
  rintro _ w1 ⟨rfl, hb1⟩
  have hGA1 := hidS (blk_later hGA0.out hb1)
  have hGR1 := hidS (blk_later hGR0.out hb1)
  have hL1 := hidS (hL0.out.trans (hb1.mono hL0.out.size))
  clear hb1 hL0 hGA0 hGR0
  have cA0 := blk_cell hGA1.out 0
  have cA1 := blk_cell hGA1.out 1
  simp at cA0 cA1
  go_wp2_with fail
  refine (HK.out _).mono ?_
  rintro _ v ⟨rfl, hv⟩
  rw [hv]
  clear hv v
  go_wp2_with fail
  clear cA0 cA1
  refine grow_known_store 12 _ [isP (.agg #[.slice (some ⟨bS, oS, none⟩) s.slots.length cS, .slice (some ⟨bH, oH, none⟩) s.heads.length cH]), rowsK w1.heap.size s, isP (.int .i64 key), isP (.pointer (some ⟨w.heap.size, 1, none⟩)), isP (.slice (some ⟨bH, oH, none⟩) s.heads.length cH), isP (.agg #[.slice (some ⟨bS, oS, none⟩) s.slots.length cS, .slice (some ⟨bH, oH, none⟩) s.heads.length cH]), isP (.int .i64 key), isP (.int .i64 (c : Int)), isP (.pointer (some ⟨bH, oH + c, none⟩)), isP (.int .i64 hd), isP (.agg #[.int .i64 key, .int .i64 hd, .int .i64 0, .int .i64 0, .int .i64 0, .int .i64 0, .int .i64 0]), wansK w1.heap.size s ⟨key, hd, 0, 0, 0, 0, 0⟩ 0] 11 4 25 32 32 (w.heap.size + 1) #[.slice none 0 0, .slice none 0 0, .int .i64 0, .int .i64 0, .int .i64 0, .int .i64 0, .int .i64 0, .int .i64 0, .int .i64 0, .int .i64 0] 10 rfl rfl rfl (by kernel_rfl) (by kernel_rfl) (by kernel_rfl) ⟨(fun v W W' h _ => h), (rowsK_last _ _), (fun v W W' h _ => h), (fun v W W' h _ => h), (fun v W W' h _ => h), (fun v W W' h _ => h), (fun v W W' h _ => h), (fun v W W' h _ => h), (fun v W W' h _ => h), (fun v W W' h _ => h), (fun v W W' h _ => h), (wansK_last _ _ _ _), trivial⟩ (by decide) (by decide) rfl rfl (by decide) rfl rfl hGR1.out (fun v W h => by obtain ⟨b2, o2, c2, b3, o3, c3, e, _⟩ : (wansK w1.heap.size s ⟨key, hd, 0, 0, 0, 0, 0⟩ 0) v W := h; exact ⟨_, e, rfl, by simp [Value.oneCell']⟩) rfl (by kernel_rfl) ?steps3 ?fin3
  case steps3 =>
    refine ⟨?_, ?_, ?_, ?_, ?_, ?_, ?_, ?_, ?_, ?_, ?_, ?_, trivial⟩
    · refine ⟨rfl, fun v W ρ hC kc kf ks ki kd => ?_⟩
      have t2 : ρ (.tmp 2) = .pointer (some ⟨w.heap.size, 0, none⟩) := ki 2 (by decide)
      have hg := blk_later hGA1.out hC
      have c0 := blk_cell hg 0
      have c1 := blk_cell hg 1
      simp at c0 c1
      simp [execOp, go_sem, kc, t2, c0, c1]
      simp only [RanS]
      first | exact ⟨hC, Below.refl _ _, rfl⟩ | exact ⟨hC, Below.refl _ _, rfl, by first | exact fun _ _ => trivial | exact fun h => absurd h (by decide), by first | exact fun _ _ => trivial | exact fun h => absurd h (by decide)⟩
    · refine ⟨rfl, fun v W ρ hC kc kf ks ki kd => ?_⟩
      have d0 : v 0 = .agg #[.slice (some ⟨bS, oS, none⟩) s.slots.length cS, .slice (some ⟨bH, oH, none⟩) s.heads.length cH] := (kdj kd 0 rfl :)
      have t14 : ρ (.tmp 14) = .agg #[.slice (some ⟨bS, oS, none⟩) s.slots.length cS, .slice (some ⟨bH, oH, none⟩) s.heads.length cH] := (ks 0 14 (by decide) rfl).trans d0
      simp [execOp, go_sem, kc, kf, t14]
      simp only [RanS]
      refine Calls.mono (HCP.out W (hL1.out.trans (hC.mono hL1.out.size))) (fun e x h => ?_)
      obtain ⟨b2, o2, c2, b3, o3, c3, rfl, q1, q2, q3, q4, q5, hb⟩ := SlabAns.rows h N1.out N3.out
      exact ⟨_, rfl, hC.trans (hb.mono hC.size), hb, b2, o2, c2, b3, o3, c3, rfl, Nat.le_trans hC.size q1, Nat.le_trans hC.size q2, q3, q4, q5⟩
    · refine ⟨rfl, fun v W ρ hC kc kf ks ki kd => ?_⟩
      have t1 : ρ (.tmp 1) = .int .i64 key := ki 1 (by decide)
      simp [execOp, go_sem, kc, t1]
      simp only [RanS]
      first | exact ⟨hC, Below.refl _ _, rfl⟩ | exact ⟨hC, Below.refl _ _, rfl, by first | exact fun _ _ => trivial | exact fun h => absurd h (by decide), by first | exact fun _ _ => trivial | exact fun h => absurd h (by decide)⟩
    · refine ⟨rfl, fun v W ρ hC kc kf ks ki kd => ?_⟩
      have t2 : ρ (.tmp 2) = .pointer (some ⟨w.heap.size, 0, none⟩) := ki 2 (by decide)
      simp [execOp, go_sem, kc, t2]
      simp only [RanS]
      first | exact ⟨hC, Below.refl _ _, rfl⟩ | exact ⟨hC, Below.refl _ _, rfl, by first | exact fun _ _ => trivial | exact fun h => absurd h (by decide), by first | exact fun _ _ => trivial | exact fun h => absurd h (by decide)⟩
    · refine ⟨rfl, fun v W ρ hC kc kf ks ki kd => ?_⟩
      have d3 : v 3 = .pointer (some ⟨w.heap.size, 1, none⟩) := (kdj kd 3 rfl :)
      have t17 : ρ (.tmp 17) = .pointer (some ⟨w.heap.size, 1, none⟩) := (ks 3 17 (by decide) rfl).trans d3
      have hg := blk_later hGA1.out hC
      have c1 := blk_cell hg 1
      simp at c1
      simp [execOp, go_sem, kc, t17, c1]
      simp only [RanS]
      first | exact ⟨hC, Below.refl _ _, rfl⟩ | exact ⟨hC, Below.refl _ _, rfl, by first | exact fun _ _ => trivial | exact fun h => absurd h (by decide), by first | exact fun _ _ => trivial | exact fun h => absurd h (by decide)⟩
    · refine ⟨rfl, fun v W ρ hC kc kf ks ki kd => ?_⟩
      have t2 : ρ (.tmp 2) = .pointer (some ⟨w.heap.size, 0, none⟩) := ki 2 (by decide)
      have hg := blk_later hGA1.out hC
      have c0 := blk_cell hg 0
      have c1 := blk_cell hg 1
      simp at c0 c1
      simp [execOp, go_sem, kc, t2, c0, c1]
      simp only [RanS]
      first | exact ⟨hC, Below.refl _ _, rfl⟩ | exact ⟨hC, Below.refl _ _, rfl, by first | exact fun _ _ => trivial | exact fun h => absurd h (by decide), by first | exact fun _ _ => trivial | exact fun h => absurd h (by decide)⟩
    · refine ⟨rfl, fun v W ρ hC kc kf ks ki kd => ?_⟩
      have t1 : ρ (.tmp 1) = .int .i64 key := ki 1 (by decide)
      simp [execOp, go_sem, kc, t1]
      simp only [RanS]
      first | exact ⟨hC, Below.refl _ _, rfl⟩ | exact ⟨hC, Below.refl _ _, rfl, by first | exact fun _ _ => trivial | exact fun h => absurd h (by decide), by first | exact fun _ _ => trivial | exact fun h => absurd h (by decide)⟩
    · refine ⟨rfl, fun v W ρ hC kc kf ks ki kd => ?_⟩
      have d5 : v 5 = .agg #[.slice (some ⟨bS, oS, none⟩) s.slots.length cS, .slice (some ⟨bH, oH, none⟩) s.heads.length cH] := (kdj kd 5 rfl :)
      have t19 : ρ (.tmp 19) = .agg #[.slice (some ⟨bS, oS, none⟩) s.slots.length cS, .slice (some ⟨bH, oH, none⟩) s.heads.length cH] := (ks 5 19 (by decide) rfl).trans d5
      have d6 : v 6 = .int .i64 key := (kdj kd 6 rfl :)
      have t20 : ρ (.tmp 20) = .int .i64 key := (ks 6 20 (by decide) rfl).trans d6
      simp [execOp, go_sem, t19, t20, kf]
      simp only [RanS]
      first | exact Calls.mono (HCF.out W) (fun e x h => ⟨_, h.1, hC.trans (h.2.mono hC.size), h.2, rfl⟩) | exact Calls.mono (HCF.out W) (fun e x h => ⟨_, h.1, hC.trans (h.2.mono hC.size), h.2, rfl, by first | exact fun _ _ => trivial | exact fun h => absurd h (by decide), by first | exact fun _ _ => trivial | exact fun h => absurd h (by decide)⟩)
    · refine ⟨rfl, fun v W ρ hC kc kf ks ki kd => ?_⟩
      have d4 : v 4 = .slice (some ⟨bH, oH, none⟩) s.heads.length cH := (kdj kd 4 rfl :)
      have t18 : ρ (.tmp 18) = .slice (some ⟨bH, oH, none⟩) s.heads.length cH := (ks 4 18 (by decide) rfl).trans d4
      have d7 : v 7 = .int .i64 (c : Int) := (kdj kd 7 rfl :)
      have t21 : ρ (.tmp 21) = .int .i64 (c : Int) := (ks 7 21 (by decide) rfl).trans d7
      simp [execOp, go_sem, kc, t18, t21, hcc]
      simp only [RanS]
      first | exact ⟨hC, Below.refl _ _, rfl⟩ | exact ⟨hC, Below.refl _ _, rfl, by first | exact fun _ _ => trivial | exact fun h => absurd h (by decide), by first | exact fun _ _ => trivial | exact fun h => absurd h (by decide)⟩
    · refine ⟨rfl, fun v W ρ hC kc kf ks ki kd => ?_⟩
      have d8 : v 8 = .pointer (some ⟨bH, oH + c, none⟩) := (kdj kd 8 rfl :)
      have t22 : ρ (.tmp 22) = .pointer (some ⟨bH, oH + c, none⟩) := (ks 8 22 (by decide) rfl).trans d8
      obtain ⟨b', o', e', hlt, hz⟩ := HCL.out W (hL1.out.trans (hC.mono hL1.out.size))
      injection e' with e'; injection e' with e1 e2
      subst e1 e2
      simp [execOp, go_sem, kc, t22, hz]
      simp only [RanS]
      first | exact ⟨hC, Below.refl _ _, rfl⟩ | exact ⟨hC, Below.refl _ _, rfl, by first | exact fun _ _ => trivial | exact fun h => absurd h (by decide), by first | exact fun _ _ => trivial | exact fun h => absurd h (by decide)⟩
    · refine ⟨rfl, fun v W ρ hC kc kf ks ki kd => ?_⟩
      have d2 : v 2 = .int .i64 key := (kdj kd 2 rfl :)
      have t16 : ρ (.tmp 16) = .int .i64 key := (ks 2 16 (by decide) rfl).trans d2
      have d9 : v 9 = .int .i64 hd := (kdj kd 9 rfl :)
      have t23 : ρ (.tmp 23) = .int .i64 hd := (ks 9 23 (by decide) rfl).trans d9
      simp [execOp, go_sem, kc, t16, t23]
      simp only [RanS]
      first | exact ⟨hC, Below.refl _ _, rfl⟩ | exact ⟨hC, Below.refl _ _, rfl, by first | exact fun _ _ => trivial | exact fun h => absurd h (by decide), by first | exact fun _ _ => trivial | exact fun h => absurd h (by decide)⟩
    · refine ⟨rfl, fun v W ρ hC kc kf ks ki kd => ?_⟩
      obtain ⟨b15, o15, q15, g15, p15, r15, e15, hl15, hm15, hn15, hP15, hQ15⟩ : (rowsK w1.heap.size s) (v 1) W := (kdj kd 1 rfl :)
      have t15 : ρ (.tmp 15) = .agg #[.slice (some ⟨b15, o15, none⟩) s.slots.length q15, .slice (some ⟨g15, p15, none⟩) s.heads.length r15] := (ks 1 15 (by decide) rfl).trans e15
      have d10 : v 10 = .agg #[.int .i64 key, .int .i64 hd, .int .i64 0, .int .i64 0, .int .i64 0, .int .i64 0, .int .i64 0] := (kdj kd 10 rfl :)
      have t24 : ρ (.tmp 24) = .agg #[.int .i64 key, .int .i64 hd, .int .i64 0, .int .i64 0, .int .i64 0, .int .i64 0, .int .i64 0] := (ks 10 24 (by decide) rfl).trans d10
      simp [execOp, go_sem, kc, kf, t15, t24]
      simp only [RanS]
      exact ⟨hC, Below.refl _ _, b15, o15, q15, g15, p15, r15, rfl, hl15, hm15, hn15, hP15, hQ15⟩
  intro v W W' new hC hall e hheap hoth hbel
  simp [upto, Act.put]
  obtain ⟨b2, o2, c2, b3, o3, c3, e2, q1, q2, q3, q4, q5⟩ : (wansK w1.heap.size s ⟨key, hd, 0, 0, 0, 0, 0⟩ 0) (v 11) W := hall 11 (by decide)
  rw [e2] at e
  injection e with e
  subst e
  have lR := blk_lt hGR1.out
  have P := hidS (q4.keep (hoth b2 (by omega)))
  have Q := hidS (q5.keep (hoth b3 (by omega)))
  have hb := hbel w.heap.size (by omega) (Nat.le_trans hL1.out.size hC.size)
  have hL := hidS ((hL1.out.trans (hC.mono hL1.out.size)).trans hb)
  have hG := hidS hheap
  clear hall hoth hbel hb q4 q5 hheap e2
  have kR := blk_cell hG.out
  have fR := blk_free hG.out
  go_wp2_with fail
  refine bodyPost_ret (v := .agg #[.slice (some ⟨b2, o2, none⟩) s.slots.length c2, .slice (some ⟨b3, o3, none⟩) s.heads.length c3, .int .i64 key, .int .i64 hd, .int .i64 0, .int .i64 0, .int .i64 0, .int .i64 0, .int .i64 0, .int .i64 0]) (by simp [results, Try.results7, go_sem, *]) rfl ?_
  exact ⟨_, _, _, _, rfl, rows_own (by omega) (by omega) q3 P.out Q.out, hL.out⟩
end Go.Proofs.Ytfjgofmjhccdkaa
