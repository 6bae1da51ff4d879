/- Proved here: spec.ErrorOf answers the error that is told of a right packet, or why not; all old memory stays (condition: the body is a string). -/
import Derived.Test.YtedknnkdnccfmaaGreatDoorAll12
import Derived.Test.YtedknnkdnccfmaaGreatDoorRightSpec
import Derived.Test.YtedknnkdnccfmaaGreatDoorAll4
import Derived.Test.YtedknnkdnccfmaaGreatDoorAll7
namespace Go.Proofs.YtedknnkdnccfmaaGreatDoor
open Go.ChangeShapes Go.WideShapes Go.ChangeAt Go.RowKit
set_option linter.unusedVariables false
set_option maxRecDepth 100000
set_option linter.unusedSimpArgs false

theorem bytesOf_28 {p : Pk} (h : Fine p) : 28 ≤ (bytesOf p).size := by
  have hz : (bytesOf p).size = 20 + (tailT p (checkT p).toNat).size := by unfold bytesOf; rw [ByteArray.size_append, headT_size]
  rw [hz]
  generalize (checkT p).toNat = c
  have h2 : (⟨#[0, 0]⟩ : ByteArray).size = 2 := rfl
  unfold tailT
  split
  · simp only [ByteArray.size_append, twoT_size, fourT_size, rowT_size, List.length_cons, List.length_nil, h2]; omega
  · split
    · simp only [ByteArray.size_append, twoT_size]; omega
    · split <;> simp only [ByteArray.size_append, twoT_size, rowT_size, List.length_cons, List.length_nil] <;> omega
/-- is it one of whom an error may be told? -/
def errB (p : Pk) (from_ : Int) : Bool := rightB p && !(p.proto == 1 && p.kind == 3) && addrB from_
def errP (p : Pk) (from_ : Int) : Pk := if errB p from_ = true then ⟨from_, p.src, 1, 0, 0, 3, 0, 0, 0, (bytesOf p).extract 0 28⟩ else zeroPk
def errC (p : Pk) (from_ : Int) : Int := if errB p from_ = true then 0 else 1

set_option maxHeartbeats 2000000 in
theorem specError_any (p : Pk) (f : Int) (w : World) (hs : p.body.size ≤ maxLen) :
    Calls Tryz.prog 89 #[.agg #[.int .i64 p.src, .int .i64 p.dst, .int .i64 p.proto, .int .i64 p.a, .int .i64 p.b, .int .i64 p.kind, .int .i64 p.flags, .int .i64 p.seq, .int .i64 p.ack, .string p.body], .int .i64 f] w fun e w' => e = .returned (.agg #[.int .i64 (errP p f).src, .int .i64 (errP p f).dst, .int .i64 (errP p f).proto, .int .i64 (errP p f).a, .int .i64 (errP p f).b, .int .i64 (errP p f).kind, .int .i64 (errP p f).flags, .int .i64 (errP p f).seq, .int .i64 (errP p f).ack, .string (errP p f).body, .int .i64 (errC p f)]) ∧ Below w.heap.size w w' := by
  have HP := hidS ((PkAt.new p w).later ((Below.refl _ _).alloc (Nat.le_refl _) (.cells #[.int .i64 0, .int .i64 0, .int .i64 0, .int .i64 0, .int .i64 0, .int .i64 0, .int .i64 0, .int .i64 0, .int .i64 0, .string ⟨#[]⟩, .int .i64 0] 29)))
  have hG : ((w.alloc (.cells #[.int .i64 p.src, .int .i64 p.dst, .int .i64 p.proto, .int .i64 p.a, .int .i64 p.b, .int .i64 p.kind, .int .i64 p.flags, .int .i64 p.seq, .int .i64 p.ack, .string p.body] 24)).alloc (.cells #[.int .i64 0, .int .i64 0, .int .i64 0, .int .i64 0, .int .i64 0, .int .i64 0, .int .i64 0, .int .i64 0, .int .i64 0, .string ⟨#[]⟩, .int .i64 0] 29)).heap[w.heap.size + 1]? = some (.cells #[.int .i64 0, .int .i64 0, .int .i64 0, .int .i64 0, .int .i64 0, .int .i64 0, .int .i64 0, .int .i64 0, .int .i64 0, .string ⟨#[]⟩, .int .i64 0] 29) := by
    have := heap_newG (w.alloc (.cells #[.int .i64 p.src, .int .i64 p.dst, .int .i64 p.proto, .int .i64 p.a, .int .i64 p.b, .int .i64 p.kind, .int .i64 p.flags, .int .i64 p.seq, .int .i64 p.ack, .string p.body] 24)) (.cells #[.int .i64 0, .int .i64 0, .int .i64 0, .int .i64 0, .int .i64 0, .int .i64 0, .int .i64 0, .int .i64 0, .int .i64 0, .string ⟨#[]⟩, .int .i64 0] 29)
    simpa using this
  have hL := hidS (((Below.refl w.heap.size w).alloc (Nat.le_refl _) (.cells #[.int .i64 p.src, .int .i64 p.dst, .int .i64 p.proto, .int .i64 p.a, .int .i64 p.b, .int .i64 p.kind, .int .i64 p.flags, .int .i64 p.seq, .int .i64 p.ack, .string p.body] 24)).alloc (by simp) (.cells #[.int .i64 0, .int .i64 0, .int .i64 0, .int .i64 0, .int .i64 0, .int .i64 0, .int .i64 0, .int .i64 0, .int .i64 0, .string ⟨#[]⟩, .int .i64 0] 29))
  go_enter Tryz.func89, Tryz.ntmps89
  go_wp2_with fail
  generalize (w.alloc (.cells #[.int .i64 p.src, .int .i64 p.dst, .int .i64 p.proto, .int .i64 p.a, .int .i64 p.b, .int .i64 p.kind, .int .i64 p.flags, .int .i64 p.seq, .int .i64 p.ack, .string p.body] 24)).alloc (.cells #[.int .i64 0, .int .i64 0, .int .i64 0, .int .i64 0, .int .i64 0, .int .i64 0, .int .i64 0, .int .i64 0, .int .i64 0, .string ⟨#[]⟩, .int .i64 0] 29) = w1 at HP hG hL ⊢
  refine (specRight_any p _ hs).mono ?_
  rintro _ w2 ⟨rfl, hb2⟩
  have HP2 := HP.out.later hb2
  have hG2 := blk_later hG hb2
  have hL2 := hidS (hL.out.trans (hb2.mono hL.out.size))
  clear HP hG hL hb2
  have H2 := hidS HP2
  obtain ⟨c0, c1, c2, c3, c4, c5, c6, c7, c8, c9⟩ := HP2
  have g0 := blk_cell hG2
  have gf := blk_free hG2
  cases hr : rightB p
  · clear c0 c1 c2 c3 c4 c5 c6 c7 c8 c9
    have eb : errB p f = false := by unfold errB; rw [hr]; rfl
    have e1 : Hid (errC p f = 1) := if_neg (by rw [eb]; simp)
    have e2 : Hid (errP p f = zeroPk) := if_neg (by rw [eb]; simp)
    clear eb
    go_wp2
    refine bodyPost_ret (v := .agg #[.int .i64 0, .int .i64 0, .int .i64 0, .int .i64 0, .int .i64 0, .int .i64 0, .int .i64 0, .int .i64 0, .int .i64 0, .string ⟨#[]⟩, .int .i64 1]) (by simp [results, Tryz.results89, go_sem, g0]) rfl ⟨by rw [e1.out, e2.out]; rfl, ?_⟩
    iterate 11 (refine below_at ?_ (Nat.le_succ _))
    exact hL2.out
  · by_cases h1 : p.proto = 1
    · have h1' : (p.proto == 1) = true := beq_iff_eq.2 h1
      by_cases h3 : p.kind = 3
      · have h3' : (p.kind == 3) = true := beq_iff_eq.2 h3
        clear h1 h3
        have eb : errB p f = false := by unfold errB; rw [hr, h1', h3']; rfl
        have e1 : Hid (errC p f = 1) := if_neg (by rw [eb]; simp)
        have e2 : Hid (errP p f = zeroPk) := if_neg (by rw [eb]; simp)
        clear eb
        go_wp2
        refine bodyPost_ret (v := .agg #[.int .i64 0, .int .i64 0, .int .i64 0, .int .i64 0, .int .i64 0, .int .i64 0, .int .i64 0, .int .i64 0, .int .i64 0, .string ⟨#[]⟩, .int .i64 1]) (by simp [results, Tryz.results89, go_sem, g0]) rfl ⟨by rw [e1.out, e2.out]; rfl, ?_⟩
        iterate 11 (refine below_at ?_ (Nat.le_succ _))
        exact hL2.out
      · have h3' : (p.kind == 3) = false := beq_eq_false_iff_ne.2 h3
        clear h1 h3
        go_wp2_with fail
        refine (l02Addr_any _ _).mono ?_
        rintro _ w3 ⟨rfl, rfl⟩
        cases hf : addrB f
        · have eb : errB p f = false := by unfold errB; rw [hr, h1', h3', hf]; rfl
          have e1 : Hid (errC p f = 1) := if_neg (by rw [eb]; simp)
          have e2 : Hid (errP p f = zeroPk) := if_neg (by rw [eb]; simp)
          clear eb
          go_wp2
          refine bodyPost_ret (v := .agg #[.int .i64 0, .int .i64 0, .int .i64 0, .int .i64 0, .int .i64 0, .int .i64 0, .int .i64 0, .int .i64 0, .int .i64 0, .string ⟨#[]⟩, .int .i64 1]) (by simp [results, Tryz.results89, go_sem, g0]) rfl ⟨by rw [e1.out, e2.out]; rfl, ?_⟩
          iterate 11 (refine below_at ?_ (Nat.le_succ _))
          exact hL2.out
        · have eb : errB p f = true := by unfold errB; rw [hr, h1', h3', hf]; rfl
          have e1 : Hid (errC p f = 0) := if_pos eb
          have e2 : Hid (errP p f = ⟨f, p.src, 1, 0, 0, 3, 0, 0, 0, (bytesOf p).extract 0 28⟩) := if_pos eb
          clear eb
          have hF := hidS (fine_of hr)
          have h28 : 28 ≤ (bytesOf p).size := bytesOf_28 hF.out
          have h28i : (28 : Int) ≤ ((bytesOf p).size : Int) := by omega
          have HP := H2
          go_wp2_with fail
          refine grow_into 8 _ [.is (.int .i64 f), .is (.pointer (some ⟨w.heap.size, 0, none⟩)), .is (.int .i64 p.src), .is (.agg #[.int .i64 p.src, .int .i64 p.dst, .int .i64 p.proto, .int .i64 p.a, .int .i64 p.b, .int .i64 p.kind, .int .i64 p.flags, .int .i64 p.seq, .int .i64 p.ack, .string p.body]), .is (.string (bytesOf p)), .is (.string ((bytesOf p).extract 0 28)), .is (.agg #[.int .i64 f, .int .i64 p.src, .int .i64 1, .int .i64 0, .int .i64 0, .int .i64 3, .int .i64 0, .int .i64 0, .int .i64 0, .string ((bytesOf p).extract 0 28)]), .is (.agg #[.int .i64 f, .int .i64 p.src, .int .i64 1, .int .i64 0, .int .i64 0, .int .i64 3, .int .i64 0, .int .i64 0, .int .i64 0, .string ((bytesOf p).extract 0 28), .int .i64 0])] 7 4 31 29 29 (w.heap.size + 1) #[.int .i64 0, .int .i64 0, .int .i64 0, .int .i64 0, .int .i64 0, .int .i64 0, .int .i64 0, .int .i64 0, .int .i64 0, .string ⟨#[]⟩, .int .i64 0] #[.int .i64 f, .int .i64 p.src, .int .i64 1, .int .i64 0, .int .i64 0, .int .i64 3, .int .i64 0, .int .i64 0, .int .i64 0, .string ((bytesOf p).extract 0 28), .int .i64 0] rfl rfl rfl (by kernel_rfl) (by kernel_rfl) (by kernel_rfl) rfl rfl (by decide) (by kernel_rfl) (by kernel_rfl) (by decide) hG2 (by kernel_rfl) (by kernel_rfl) (by first | kernel_rfl | simp [Value.oneCell']) (by kernel_rfl) ?steps ?fin
          case steps =>
            refine ⟨?_, ?_, ?_, ?_, ?_, ?_, ?_, ?_, trivial⟩
            · refine ⟨rfl, fun v W ρ hC kc kf ks ki kd => ?_⟩
              have t1 : ρ (.tmp 1) = .int .i64 f := ki 1 (by decide)
              simp [execOp, go_sem, t1]
              exact ⟨hC, Below.refl _ _, rfl⟩
            · refine ⟨rfl, fun v W ρ hC kc kf ks ki kd => ?_⟩
              have t2 : ρ (.tmp 2) = .pointer (some ⟨w.heap.size, 0, none⟩) := ki 2 (by decide)
              simp [execOp, go_sem, t2]
              exact ⟨hC, Below.refl _ _, rfl⟩
            · refine ⟨rfl, fun v W ρ hC kc kf ks ki kd => ?_⟩
              have d1 : v 1 = .pointer (some ⟨w.heap.size, 0, none⟩) := kd _ (Array.mem_of_getElem? (i := 0) rfl) rfl
              have t25 : ρ (.tmp 25) = v 1 := ks 1 25 (by decide) rfl
              rw [d1] at t25
              have hp := HP.out.later hC
              obtain ⟨c0, c1, c2, c3, c4, c5, c6, c7, c8, c9⟩ := hp
              simp [execOp, go_sem, t25, c0]
              exact ⟨hC, Below.refl _ _, rfl⟩
            · refine ⟨rfl, fun v W ρ hC kc kf ks ki kd => ?_⟩
              have t2 : ρ (.tmp 2) = .pointer (some ⟨w.heap.size, 0, none⟩) := ki 2 (by decide)
              have hp := HP.out.later hC
              obtain ⟨c0, c1, c2, c3, c4, c5, c6, c7, c8, c9⟩ := hp
              simp [execOp, go_sem, t2, c0, c1, c2, c3, c4, c5, c6, c7, c8, c9]
              exact ⟨hC, Below.refl _ _, rfl⟩
            · refine ⟨rfl, fun v W ρ hC kc kf ks ki kd => ?_⟩
              have d3 : v 3 = .agg #[.int .i64 p.src, .int .i64 p.dst, .int .i64 p.proto, .int .i64 p.a, .int .i64 p.b, .int .i64 p.kind, .int .i64 p.flags, .int .i64 p.seq, .int .i64 p.ack, .string p.body] := kd _ (Array.mem_of_getElem? (i := 0) rfl) rfl
              have t27 : ρ (.tmp 27) = v 3 := ks 3 27 (by decide) rfl
              rw [d3] at t27
              simp [execOp, go_sem, t27, kf]
              exact Calls.mono (l03Bytes_any p _ hF.out) (fun e x h => ⟨_, h.1, hC.trans (h.2.mono hC.size), h.2, rfl⟩)
            · refine ⟨rfl, fun v W ρ hC kc kf ks ki kd => ?_⟩
              have d4 : v 4 = .string (bytesOf p) := kd _ (Array.mem_of_getElem? (i := 0) rfl) rfl
              have t28 : ρ (.tmp 28) = v 4 := ks 4 28 (by decide) rfl
              rw [d4] at t28
              simp [execOp, go_sem, t28, h28, h28i, kc]
              exact ⟨hC, Below.refl _ _, rfl⟩
            · refine ⟨rfl, fun v W ρ hC kc kf ks ki kd => ?_⟩
              have d0 : v 0 = .int .i64 f := kd _ (Array.mem_of_getElem? (i := 0) rfl) rfl
              have t24 : ρ (.tmp 24) = v 0 := ks 0 24 (by decide) rfl
              rw [d0] at t24
              have d2 : v 2 = .int .i64 p.src := kd _ (Array.mem_of_getElem? (i := 1) rfl) rfl
              have t26 : ρ (.tmp 26) = v 2 := ks 2 26 (by decide) rfl
              rw [d2] at t26
              have d5 : v 5 = .string ((bytesOf p).extract 0 28) := kd _ (Array.mem_of_getElem? (i := 2) rfl) rfl
              have t29 : ρ (.tmp 29) = v 5 := ks 5 29 (by decide) rfl
              rw [d5] at t29
              simp [execOp, go_sem, t24, t26, t29, kc]
              exact ⟨hC, Below.refl _ _, rfl⟩
            · refine ⟨rfl, fun v W ρ hC kc kf ks ki kd => ?_⟩
              have d6 : v 6 = .agg #[.int .i64 f, .int .i64 p.src, .int .i64 1, .int .i64 0, .int .i64 0, .int .i64 3, .int .i64 0, .int .i64 0, .int .i64 0, .string ((bytesOf p).extract 0 28)] := kd _ (Array.mem_of_getElem? (i := 0) rfl) rfl
              have t30 : ρ (.tmp 30) = v 6 := ks 6 30 (by decide) rfl
              rw [d6] at t30
              simp [execOp, go_sem, t30]
              exact ⟨hC, Below.refl _ _, rfl⟩
          case fin =>
            intro v W hLW hgW hall
            simp [upto, Act.put]
            clear hall
            have g0 := blk_cell hgW
            have hLE := hidS (hL2.out.trans (hLW w.heap.size (Nat.le_succ _)))
            clear c0 c1 c2 c3 c4 c5 c6 c7 c8 c9 hgW hLW
            go_wp2
            refine bodyPost_ret (v := .agg #[.int .i64 f, .int .i64 p.src, .int .i64 1, .int .i64 0, .int .i64 0, .int .i64 3, .int .i64 0, .int .i64 0, .int .i64 0, .string ((bytesOf p).extract 0 28), .int .i64 0]) (by simp [results, Tryz.results89, go_sem, g0]) rfl ⟨by rw [e1.out, e2.out], hLE.out⟩
    · have h1' : (p.proto == 1) = false := beq_eq_false_iff_ne.2 h1
      clear h1
      go_wp2_with fail
      refine (l02Addr_any _ _).mono ?_
      rintro _ w3 ⟨rfl, rfl⟩
      cases hf : addrB f
      · have eb : errB p f = false := by unfold errB; rw [hr, h1', hf]; rfl
        have e1 : Hid (errC p f = 1) := if_neg (by rw [eb]; simp)
        have e2 : Hid (errP p f = zeroPk) := if_neg (by rw [eb]; simp)
        clear eb
        go_wp2
        refine bodyPost_ret (v := .agg #[.int .i64 0, .int .i64 0, .int .i64 0, .int .i64 0, .int .i64 0, .int .i64 0, .int .i64 0, .int .i64 0, .int .i64 0, .string ⟨#[]⟩, .int .i64 1]) (by simp [results, Tryz.results89, go_sem, g0]) rfl ⟨by rw [e1.out, e2.out]; rfl, ?_⟩
        iterate 11 (refine below_at ?_ (Nat.le_succ _))
        exact hL2.out
      · have eb : errB p f = true := by unfold errB; rw [hr, h1', hf]; rfl
        have e1 : Hid (errC p f = 0) := if_pos eb
        have e2 : Hid (errP p f = ⟨f, p.src, 1, 0, 0, 3, 0, 0, 0, (bytesOf p).extract 0 28⟩) := if_pos eb
        clear eb
        have hF := hidS (fine_of hr)
        have h28 : 28 ≤ (bytesOf p).size := bytesOf_28 hF.out
        have h28i : (28 : Int) ≤ ((bytesOf p).size : Int) := by omega
        have HP := H2
        go_wp2_with fail
        refine grow_into 8 _ [.is (.int .i64 f), .is (.pointer (some ⟨w.heap.size, 0, none⟩)), .is (.int .i64 p.src), .is (.agg #[.int .i64 p.src, .int .i64 p.dst, .int .i64 p.proto, .int .i64 p.a, .int .i64 p.b, .int .i64 p.kind, .int .i64 p.flags, .int .i64 p.seq, .int .i64 p.ack, .string p.body]), .is (.string (bytesOf p)), .is (.string ((bytesOf p).extract 0 28)), .is (.agg #[.int .i64 f, .int .i64 p.src, .int .i64 1, .int .i64 0, .int .i64 0, .int .i64 3, .int .i64 0, .int .i64 0, .int .i64 0, .string ((bytesOf p).extract 0 28)]), .is (.agg #[.int .i64 f, .int .i64 p.src, .int .i64 1, .int .i64 0, .int .i64 0, .int .i64 3, .int .i64 0, .int .i64 0, .int .i64 0, .string ((bytesOf p).extract 0 28), .int .i64 0])] 7 4 31 29 29 (w.heap.size + 1) #[.int .i64 0, .int .i64 0, .int .i64 0, .int .i64 0, .int .i64 0, .int .i64 0, .int .i64 0, .int .i64 0, .int .i64 0, .string ⟨#[]⟩, .int .i64 0] #[.int .i64 f, .int .i64 p.src, .int .i64 1, .int .i64 0, .int .i64 0, .int .i64 3, .int .i64 0, .int .i64 0, .int .i64 0, .string ((bytesOf p).extract 0 28), .int .i64 0] rfl rfl rfl (by kernel_rfl) (by kernel_rfl) (by kernel_rfl) rfl rfl (by decide) (by kernel_rfl) (by kernel_rfl) (by decide) hG2 (by kernel_rfl) (by kernel_rfl) (by first | kernel_rfl | simp [Value.oneCell']) (by kernel_rfl) ?steps ?fin
        case steps =>
          refine ⟨?_, ?_, ?_, ?_, ?_, ?_, ?_, ?_, trivial⟩
          · refine ⟨rfl, fun v W ρ hC kc kf ks ki kd => ?_⟩
            have t1 : ρ (.tmp 1) = .int .i64 f := ki 1 (by decide)
            simp [execOp, go_sem, t1]
            exact ⟨hC, Below.refl _ _, rfl⟩
          · refine ⟨rfl, fun v W ρ hC kc kf ks ki kd => ?_⟩
            have t2 : ρ (.tmp 2) = .pointer (some ⟨w.heap.size, 0, none⟩) := ki 2 (by decide)
            simp [execOp, go_sem, t2]
            exact ⟨hC, Below.refl _ _, rfl⟩
          · refine ⟨rfl, fun v W ρ hC kc kf ks ki kd => ?_⟩
            have d1 : v 1 = .pointer (some ⟨w.heap.size, 0, none⟩) := kd _ (Array.mem_of_getElem? (i := 0) rfl) rfl
            have t25 : ρ (.tmp 25) = v 1 := ks 1 25 (by decide) rfl
            rw [d1] at t25
            have hp := HP.out.later hC
            obtain ⟨c0, c1, c2, c3, c4, c5, c6, c7, c8, c9⟩ := hp
            simp [execOp, go_sem, t25, c0]
            exact ⟨hC, Below.refl _ _, rfl⟩
          · refine ⟨rfl, fun v W ρ hC kc kf ks ki kd => ?_⟩
            have t2 : ρ (.tmp 2) = .pointer (some ⟨w.heap.size, 0, none⟩) := ki 2 (by decide)
            have hp := HP.out.later hC
            obtain ⟨c0, c1, c2, c3, c4, c5, c6, c7, c8, c9⟩ := hp
            simp [execOp, go_sem, t2, c0, c1, c2, c3, c4, c5, c6, c7, c8, c9]
            exact ⟨hC, Below.refl _ _, rfl⟩
          · refine ⟨rfl, fun v W ρ hC kc kf ks ki kd => ?_⟩
            have d3 : v 3 = .agg #[.int .i64 p.src, .int .i64 p.dst, .int .i64 p.proto, .int .i64 p.a, .int .i64 p.b, .int .i64 p.kind, .int .i64 p.flags, .int .i64 p.seq, .int .i64 p.ack, .string p.body] := kd _ (Array.mem_of_getElem? (i := 0) rfl) rfl
            have t27 : ρ (.tmp 27) = v 3 := ks 3 27 (by decide) rfl
            rw [d3] at t27
            simp [execOp, go_sem, t27, kf]
            exact Calls.mono (l03Bytes_any p _ hF.out) (fun e x h => ⟨_, h.1, hC.trans (h.2.mono hC.size), h.2, rfl⟩)
          · refine ⟨rfl, fun v W ρ hC kc kf ks ki kd => ?_⟩
            have d4 : v 4 = .string (bytesOf p) := kd _ (Array.mem_of_getElem? (i := 0) rfl) rfl
            have t28 : ρ (.tmp 28) = v 4 := ks 4 28 (by decide) rfl
            rw [d4] at t28
            simp [execOp, go_sem, t28, h28, h28i, kc]
            exact ⟨hC, Below.refl _ _, rfl⟩
          · refine ⟨rfl, fun v W ρ hC kc kf ks ki kd => ?_⟩
            have d0 : v 0 = .int .i64 f := kd _ (Array.mem_of_getElem? (i := 0) rfl) rfl
            have t24 : ρ (.tmp 24) = v 0 := ks 0 24 (by decide) rfl
            rw [d0] at t24
            have d2 : v 2 = .int .i64 p.src := kd _ (Array.mem_of_getElem? (i := 1) rfl) rfl
            have t26 : ρ (.tmp 26) = v 2 := ks 2 26 (by decide) rfl
            rw [d2] at t26
            have d5 : v 5 = .string ((bytesOf p).extract 0 28) := kd _ (Array.mem_of_getElem? (i := 2) rfl) rfl
            have t29 : ρ (.tmp 29) = v 5 := ks 5 29 (by decide) rfl
            rw [d5] at t29
            simp [execOp, go_sem, t24, t26, t29, kc]
            exact ⟨hC, Below.refl _ _, rfl⟩
          · refine ⟨rfl, fun v W ρ hC kc kf ks ki kd => ?_⟩
            have d6 : v 6 = .agg #[.int .i64 f, .int .i64 p.src, .int .i64 1, .int .i64 0, .int .i64 0, .int .i64 3, .int .i64 0, .int .i64 0, .int .i64 0, .string ((bytesOf p).extract 0 28)] := kd _ (Array.mem_of_getElem? (i := 0) rfl) rfl
            have t30 : ρ (.tmp 30) = v 6 := ks 6 30 (by decide) rfl
            rw [d6] at t30
            simp [execOp, go_sem, t30]
            exact ⟨hC, Below.refl _ _, rfl⟩
        case fin =>
          intro v W hLW hgW hall
          simp [upto, Act.put]
          clear hall
          have g0 := blk_cell hgW
          have hLE := hidS (hL2.out.trans (hLW w.heap.size (Nat.le_succ _)))
          clear c0 c1 c2 c3 c4 c5 c6 c7 c8 c9 hgW hLW
          go_wp2
          refine bodyPost_ret (v := .agg #[.int .i64 f, .int .i64 p.src, .int .i64 1, .int .i64 0, .int .i64 0, .int .i64 3, .int .i64 0, .int .i64 0, .int .i64 0, .string ((bytesOf p).extract 0 28), .int .i64 0]) (by simp [results, Tryz.results89, go_sem, g0]) rfl ⟨by rw [e1.out, e2.out], hLE.out⟩
end Go.Proofs.YtedknnkdnccfmaaGreatDoor
