/- Proved here: spec.InnerOf answers of whom an error speaks, or why not; all old memory stays (condition: the body is a string). -/
import Derived.Test.YtokjhfgbnpdfnaaDoorAll22
import Derived.Test.YtokjhfgbnpdfnaaDoorAll9
import Derived.Test.YtokjhfgbnpdfnaaDoorRightSpec
import Derived.Deep.RegionHeld3
namespace Go.Proofs.YtokjhfgbnpdfnaaDoor
open Go.ChangeShapes Go.WideShapes Go.ChangeAt Go.RowKit
set_option linter.unusedVariables false
set_option maxRecDepth 100000
set_option linter.unusedSimpArgs false

/-- do these 28 bytes speak of a packet x? -/
def okI (t : ByteArray) (x : Pk) : Bool := rightB x && !(x.proto == 1 && (x.kind == 3 || !((byteN t 21 : Int) == 0))) && ((t.extract 0 2).toList == ((headT x 0 0).extract 0 2).toList) && ((t.extract 4 10).toList == ((headT x 0 0).extract 4 10).toList)
def errK (p : Pk) : Bool := rightB p && (p.proto == 1) && (p.kind == 3)
def innerC (p : Pk) : Int := if errK p = false then 1 else if okI (p.body.extract 0 28) (innerPk (p.body.extract 0 28)) = false then 3 else 0
def innerP (p : Pk) : Pk := if innerC p = 0 then innerPk (p.body.extract 0 28) else zeroPk

theorem innerPk_src (s : ByteArray) : addrB (innerPk s).src = true ∧ addrB (innerPk s).dst = true ∧ 0 ≤ (innerPk s).proto ∧ (innerPk s).proto ≤ 255 ∧ (innerPk s).body.size = 0 := by
  have h1 := word4_lt s 12
  have h2 := word4_lt s 16
  have h3 := byteN_lt s 9
  unfold innerPk
  split
  · exact ⟨addrB_iff.2 ⟨by simp, by simp; omega⟩, addrB_iff.2 ⟨by simp, by simp; omega⟩, by simp, by simp; omega, rfl⟩
  · split <;> exact ⟨addrB_iff.2 ⟨by simp, by simp; omega⟩, addrB_iff.2 ⟨by simp, by simp; omega⟩, by simp, by simp; omega, rfl⟩

theorem specRight_is (x : Pk) (w : World) (hs : x.body.size ≤ maxLen) {b : Bool} (h : rightB x = b) :
    Calls Tryd.prog 19 #[.agg #[.int .i64 x.src, .int .i64 x.dst, .int .i64 x.proto, .int .i64 x.a, .int .i64 x.b, .int .i64 x.kind, .int .i64 x.flags, .int .i64 x.seq, .int .i64 x.ack, .string x.body]] w fun e w' => e = .returned (.bool b) ∧ Below w.heap.size w w' := by rw [← h]; exact specRight_any x w hs

set_option maxHeartbeats 4000000 in
theorem specInner_any (p : Pk) (w : World) (hs : p.body.size ≤ maxLen) :
    Calls Tryd.prog 18 #[.agg #[.int .i64 p.src, .int .i64 p.dst, .int .i64 p.proto, .int .i64 p.a, .int .i64 p.b, .int .i64 p.kind, .int .i64 p.flags, .int .i64 p.seq, .int .i64 p.ack, .string p.body]] w fun e w' => e = .returned (.agg #[.int .i64 (innerP p).src, .int .i64 (innerP p).dst, .int .i64 (innerP p).proto, .int .i64 (innerP p).a, .int .i64 (innerP p).b, .int .i64 (innerP p).kind, .int .i64 (innerP p).flags, .int .i64 (innerP p).seq, .int .i64 (innerP p).ack, .string (innerP p).body, .int .i64 (innerC p)]) ∧ Below w.heap.size w w' := by
  have HP := hidS ((PkAt.new p w).later ((Below.refl _ _).alloc (Nat.le_refl _) (.cells #[.int .i64 0, .int .i64 0, .int .i64 0, .int .i64 0, .int .i64 0, .int .i64 0, .int .i64 0, .int .i64 0, .int .i64 0, .string ⟨#[]⟩, .int .i64 0] 39)))
  have hG : ((w.alloc (.cells #[.int .i64 p.src, .int .i64 p.dst, .int .i64 p.proto, .int .i64 p.a, .int .i64 p.b, .int .i64 p.kind, .int .i64 p.flags, .int .i64 p.seq, .int .i64 p.ack, .string p.body] 35)).alloc (.cells #[.int .i64 0, .int .i64 0, .int .i64 0, .int .i64 0, .int .i64 0, .int .i64 0, .int .i64 0, .int .i64 0, .int .i64 0, .string ⟨#[]⟩, .int .i64 0] 39)).heap[w.heap.size + 1]? = some (.cells #[.int .i64 0, .int .i64 0, .int .i64 0, .int .i64 0, .int .i64 0, .int .i64 0, .int .i64 0, .int .i64 0, .int .i64 0, .string ⟨#[]⟩, .int .i64 0] 39) := by
    have := heap_newG (w.alloc (.cells #[.int .i64 p.src, .int .i64 p.dst, .int .i64 p.proto, .int .i64 p.a, .int .i64 p.b, .int .i64 p.kind, .int .i64 p.flags, .int .i64 p.seq, .int .i64 p.ack, .string p.body] 35)) (.cells #[.int .i64 0, .int .i64 0, .int .i64 0, .int .i64 0, .int .i64 0, .int .i64 0, .int .i64 0, .int .i64 0, .int .i64 0, .string ⟨#[]⟩, .int .i64 0] 39)
    simpa using this
  have hL := hidS (((Below.refl w.heap.size w).alloc (Nat.le_refl _) (.cells #[.int .i64 p.src, .int .i64 p.dst, .int .i64 p.proto, .int .i64 p.a, .int .i64 p.b, .int .i64 p.kind, .int .i64 p.flags, .int .i64 p.seq, .int .i64 p.ack, .string p.body] 35)).alloc (by simp) (.cells #[.int .i64 0, .int .i64 0, .int .i64 0, .int .i64 0, .int .i64 0, .int .i64 0, .int .i64 0, .int .i64 0, .int .i64 0, .string ⟨#[]⟩, .int .i64 0] 39))
  go_enter Tryd.func18, Tryd.ntmps18
  go_wp2_with fail
  generalize (w.alloc (.cells #[.int .i64 p.src, .int .i64 p.dst, .int .i64 p.proto, .int .i64 p.a, .int .i64 p.b, .int .i64 p.kind, .int .i64 p.flags, .int .i64 p.seq, .int .i64 p.ack, .string p.body] 35)).alloc (.cells #[.int .i64 0, .int .i64 0, .int .i64 0, .int .i64 0, .int .i64 0, .int .i64 0, .int .i64 0, .int .i64 0, .int .i64 0, .string ⟨#[]⟩, .int .i64 0] 39) = w1 at HP hG hL ⊢
  refine (specRight_any p _ hs).mono ?_
  rintro _ w2 ⟨rfl, hb2⟩
  have HP2 := HP.out.later hb2
  have hG2 := blk_later hG hb2
  have hL2 := hidS (hL.out.trans (hb2.mono hL.out.size))
  clear HP hG hL hb2
  have H2 := hidS HP2
  obtain ⟨c0, c1, c2, c3, c4, c5, c6, c7, c8, c9⟩ := HP2
  have g0 := blk_cell hG2
  have gf := blk_free hG2
  cases hr : rightB p
  · clear c0 c1 c2 c3 c4 c5 c6 c7 c8 c9
    have e1 : Hid (innerC p = 1) := if_pos (by unfold errK; rw [hr]; rfl)
    have e2 : Hid (innerP p = zeroPk) := if_neg (by rw [e1.out]; decide)
    go_wp2
    refine bodyPost_ret (v := .agg #[.int .i64 0, .int .i64 0, .int .i64 0, .int .i64 0, .int .i64 0, .int .i64 0, .int .i64 0, .int .i64 0, .int .i64 0, .string ⟨#[]⟩, .int .i64 1]) (by simp [results, Tryd.results18, go_sem, g0]) rfl ⟨by rw [e1.out, e2.out]; rfl, ?_⟩
    iterate 11 (refine below_at ?_ (Nat.le_succ _))
    exact hL2.out
  by_cases h1 : p.proto = 1
  case neg =>
    have h1' : (p.proto == 1) = false := beq_eq_false_iff_ne.2 h1
    have h1n : (p.proto != 1) = true := by rw [bne, h1']; rfl
    clear h1
    have e1 : Hid (innerC p = 1) := if_pos (by unfold errK; rw [hr, h1']; rfl)
    have e2 : Hid (innerP p = zeroPk) := if_neg (by rw [e1.out]; decide)
    go_wp2
    refine bodyPost_ret (v := .agg #[.int .i64 0, .int .i64 0, .int .i64 0, .int .i64 0, .int .i64 0, .int .i64 0, .int .i64 0, .int .i64 0, .int .i64 0, .string ⟨#[]⟩, .int .i64 1]) (by simp [results, Tryd.results18, go_sem, g0]) rfl ⟨by rw [e1.out, e2.out]; rfl, ?_⟩
    iterate 11 (refine below_at ?_ (Nat.le_succ _))
    exact hL2.out
  have h1' : (p.proto == 1) = true := beq_iff_eq.2 h1
  have h1n : (p.proto != 1) = false := by rw [bne, h1']; rfl
  by_cases h3 : p.kind = 3
  case neg =>
    have h3' : (p.kind == 3) = false := beq_eq_false_iff_ne.2 h3
    have h3n : (p.kind != 3) = true := by rw [bne, h3']; rfl
    clear h1 h3
    have e1 : Hid (innerC p = 1) := if_pos (by unfold errK; rw [hr, h1', h3']; rfl)
    have e2 : Hid (innerP p = zeroPk) := if_neg (by rw [e1.out]; decide)
    go_wp2
    refine bodyPost_ret (v := .agg #[.int .i64 0, .int .i64 0, .int .i64 0, .int .i64 0, .int .i64 0, .int .i64 0, .int .i64 0, .int .i64 0, .int .i64 0, .string ⟨#[]⟩, .int .i64 1]) (by simp [results, Tryd.results18, go_sem, g0]) rfl ⟨by rw [e1.out, e2.out]; rfl, ?_⟩
    iterate 11 (refine below_at ?_ (Nat.le_succ _))
    exact hL2.out
  have h3' : (p.kind == 3) = true := beq_iff_eq.2 h3
  have h3n : (p.kind != 3) = false := by rw [bne, h3']; rfl
  have hk : errK p = true := by unfold errK; rw [hr, h1', h3']; rfl
  have hbody : 28 ≤ p.body.size ∧ p.body.size ≤ 100 := by
    unfold rightB at hr
    simp only [Bool.and_eq_true, decide_eq_true_eq] at hr
    obtain ⟨⟨_, hz⟩, hq⟩ := hr
    rw [if_neg (by omega), if_neg (by omega), if_pos h1] at hq
    simp only [pingB, Bool.and_eq_true, decide_eq_true_eq] at hq
    obtain ⟨_, hq⟩ := hq
    rw [if_pos h3] at hq
    simp only [Bool.and_eq_true, decide_eq_true_eq] at hq
    exact ⟨hq.2, hz⟩
  have hCx : Hid (innerC p = if okI (p.body.extract 0 28) (innerPk (p.body.extract 0 28)) = false then 3 else 0) := by unfold innerC; rw [if_neg (by rw [hk]; decide)]; rfl
  have hPx : Hid (innerP p = if innerC p = 0 then innerPk (p.body.extract 0 28) else zeroPk) := rfl
  have hts : (p.body.extract 0 28).size = 28 := by simp; omega
  have hI := hidS (fun W => l03Inner_any (p.body.extract 0 28) W (by omega) (by omega))
  have hsp := innerPk_src (p.body.extract 0 28)
  generalize innerPk (p.body.extract 0 28) = x at hCx hPx hI hsp
  have hb28 : (28 : Int) ≤ (p.body.size : Int) := by omega
  have hb28n : 28 ≤ p.body.size := hbody.1
  clear h1 h3 hk hbody hr
  go_wp2_with fail
  generalize p.body.extract 0 28 = t at hCx hI hts ⊢
  refine (hI.out _).mono ?_
  rintro _ w3 ⟨rfl, hb3⟩
  have hG3 := blk_later hG2 hb3
  have hL3 := hidS (hL2.out.trans (hb3.mono hL2.out.size))
  have hgl := blk_lt hG3
  clear hI c0 c1 c2 c3 c4 c5 c6 c7 c8 c9 g0 gf H2 hG2 hL2 hb3
  go_wp2_with fail
  have hPX := PkAt.new x w3
  have hGX := blk_alloc hG3 (.cells #[.int .i64 x.src, .int .i64 x.dst, .int .i64 x.proto, .int .i64 x.a, .int .i64 x.b, .int .i64 x.kind, .int .i64 x.flags, .int .i64 x.seq, .int .i64 x.ack, .string x.body] 35)
  have hLX := hidS (hL3.out.alloc (by omega) (.cells #[.int .i64 x.src, .int .i64 x.dst, .int .i64 x.proto, .int .i64 x.a, .int .i64 x.b, .int .i64 x.kind, .int .i64 x.flags, .int .i64 x.seq, .int .i64 x.ack, .string x.body] 35))
  generalize w3.alloc (.cells #[.int .i64 x.src, .int .i64 x.dst, .int .i64 x.proto, .int .i64 x.a, .int .i64 x.b, .int .i64 x.kind, .int .i64 x.flags, .int .i64 x.seq, .int .i64 x.ack, .string x.body] 35) = w4 at hPX hGX hLX ⊢
  clear hG3 hL3
  obtain ⟨q1, q2, q3, q4, q5⟩ := hsp
  have hH : Hid (∀ W, Calls Tryd.prog 42 #[.agg #[.int .i64 x.src, .int .i64 x.dst, .int .i64 x.proto, .int .i64 x.a, .int .i64 x.b, .int .i64 x.kind, .int .i64 x.flags, .int .i64 x.seq, .int .i64 x.ack, .string x.body], .int .i64 0, .int .i64 0] W fun e w' => e = .returned (.string (headT x 0 0)) ∧ Below W.heap.size W w') := fun W => l03Head_any x 0 0 W q1 q2 q3 q4 (by omega) rfl
  have hhz := headT_size x 0 0
  have hOK : Hid (okI t x = (rightB x && !(x.proto == 1 && (x.kind == 3 || !((byteN t 21 : Int) == 0))) && ((t.extract 0 2).toList == ((headT x 0 0).extract 0 2).toList) && ((t.extract 4 10).toList == ((headT x 0 0).extract 4 10).toList))) := rfl
  generalize headT x 0 0 = h at hH hhz hOK
  clear q1 q2 q3 q4
  refine (hH.out _).mono ?_
  rintro _ w5 ⟨rfl, hb5⟩
  have hP5 := hPX.later hb5
  have hG5 := blk_later hGX hb5
  have hL5 := hidS (hLX.out.trans (hb5.mono hLX.out.size))
  clear hH hPX hGX hLX hb5
  have H5 := hidS hP5
  obtain ⟨c0, c1, c2, c3, c4, c5, c6, c7, c8, c9⟩ := hP5
  have hxb : x.body.size ≤ maxLen := by unfold maxLen; omega
  have HP := H5
  have h21 : 21 < t.size := by omega
  have h21i : (21 : Int) < (t.size : Int) := by omega
  have hb21 : t[21].toNat = byteN t 21 := byteN_get h21
  cases hrx : rightB x
  · skip
    go_wp2_with fail
    refine grow_guarded 32 [.is (.agg #[.int .i64 x.src, .int .i64 x.dst, .int .i64 x.proto, .int .i64 x.a, .int .i64 x.b, .int .i64 x.kind, .int .i64 x.flags, .int .i64 x.seq, .int .i64 x.ack, .string x.body]), .is (.bool false), .is (.bool true), .is (.bool true), .is (undef), .is (undef), .is (undef), .is (undef), .is (undef), .is (undef), .is (undef), .is (undef), .is (undef), .is (undef), .is (undef), .is (undef), .is (undef), .is (.bool true), .is (.bool true), .is (undef), .is (undef), .is (undef), .is (undef), .is (undef), .is (.bool true), .is (.bool true), .is (undef), .is (undef), .is (undef), .is (undef), .is (undef), .is (.bool true)] rfl (by kernel_rfl) (by kernel_rfl) ?steps ?fin
    case steps =>
      refine ⟨?_, ?_, ?_, ?_, ?_, ?_, ?_, ?_, ?_, ?_, ?_, ?_, ?_, ?_, ?_, ?_, ?_, ?_, ?_, ?_, ?_, ?_, ?_, ?_, ?_, ?_, ?_, ?_, ?_, ?_, ?_, ?_, trivial⟩
      · refine stepW_of_u ⟨rfl, fun v W ρ hC kc kf ks ki kd => ?_⟩
        have t4 : ρ (.tmp 4) = .pointer (some ⟨w3.heap.size, 0, none⟩) := ki 4 (by decide)
        have hp := HP.out.later hC
        obtain ⟨c0, c1, c2, c3, c4, c5, c6, c7, c8, c9⟩ := hp
        simp [execOp, go_sem, t4, c0, c1, c2, c3, c4, c5, c6, c7, c8, c9]
        exact ⟨hC, Below.refl _ _, rfl⟩
      · refine stepW_of_u ⟨rfl, fun v W ρ hC kc kf ks ki kd => ?_⟩
        have d0 : v 0 = .agg #[.int .i64 x.src, .int .i64 x.dst, .int .i64 x.proto, .int .i64 x.a, .int .i64 x.b, .int .i64 x.kind, .int .i64 x.flags, .int .i64 x.seq, .int .i64 x.ack, .string x.body] := kd _ (Array.mem_of_getElem? (i := 0) rfl) rfl
        have t27 : ρ (.tmp 27) = v 0 := ks 0 27 (by decide) rfl
        rw [d0] at t27
        simp [execOp, go_sem, t27, kf]
        exact Calls.mono (specRight_is x _ hxb hrx) (fun e x h => ⟨_, h.1, hC.trans (h.2.mono hC.size), h.2, rfl⟩)
      · refine stepW_of_u ⟨rfl, fun v W ρ hC kc kf ks ki kd => ?_⟩
        have d1 : v 1 = .bool false := kd _ (Array.mem_of_getElem? (i := 0) rfl) rfl
        have t28 : ρ (.tmp 28) = v 1 := ks 1 28 (by decide) rfl
        rw [d1] at t28
        simp [execOp, go_sem, t28]
        exact ⟨hC, Below.refl _ _, rfl⟩
      · refine stepW_of_u ⟨rfl, fun v W ρ hC kc kf ks ki kd => ?_⟩
        have d2 : v 2 = .bool true := kd _ (Array.mem_of_getElem? (i := 0) rfl) rfl
        have t29 : ρ (.tmp 29) = v 2 := ks 2 29 (by decide) rfl
        rw [d2] at t29
        simp [execOp, go_sem, t29]
        exact ⟨hC, Below.refl _ _, rfl⟩
      · intro v W ρ y hC kc kf ks ki ky ku kd
        have dg : v 3 = .bool true := kd _ (Array.mem_of_getElem? (i := 0) rfl) rfl
        have hy := ky 3 30 true (by decide) rfl dg
        rw [if_neg (by simp [Region.wanted, hy])]
        exact ⟨Below.refl _ _, rfl⟩
      · intro v W ρ y hC kc kf ks ki ky ku kd
        have dg : v 3 = .bool true := kd _ (Array.mem_of_getElem? (i := 1) rfl) rfl
        have hy := ky 3 30 true (by decide) rfl dg
        rw [if_neg (by simp [Region.wanted, hy])]
        exact ⟨Below.refl _ _, rfl⟩
      · intro v W ρ y hC kc kf ks ki ky ku kd
        have dg : v 3 = .bool true := kd _ (Array.mem_of_getElem? (i := 1) rfl) rfl
        have hy := ky 3 30 true (by decide) rfl dg
        rw [if_neg (by simp [Region.wanted, hy])]
        exact ⟨Below.refl _ _, rfl⟩
      · intro v W ρ y hC kc kf ks ki ky ku kd
        have dg : v 3 = .bool true := kd _ (Array.mem_of_getElem? (i := 1) rfl) rfl
        have hy := ky 3 30 true (by decide) rfl dg
        rw [if_neg (by simp [Region.wanted, hy])]
        exact ⟨Below.refl _ _, rfl⟩
      · intro v W ρ y hC kc kf ks ki ky ku kd
        have dg : v 7 = undef := kd _ (Array.mem_of_getElem? (i := 0) rfl) rfl
        have hy := ku 7 34 (by decide) rfl dg
        rw [if_neg (by simp [Region.wanted, hy])]
        exact ⟨Below.refl _ _, rfl⟩
      · intro v W ρ y hC kc kf ks ki ky ku kd
        have dg : v 7 = undef := kd _ (Array.mem_of_getElem? (i := 1) rfl) rfl
        have hy := ku 7 34 (by decide) rfl dg
        rw [if_neg (by simp [Region.wanted, hy])]
        exact ⟨Below.refl _ _, rfl⟩
      · intro v W ρ y hC kc kf ks ki ky ku kd
        have dg : v 7 = undef := kd _ (Array.mem_of_getElem? (i := 1) rfl) rfl
        have hy := ku 7 34 (by decide) rfl dg
        rw [if_neg (by simp [Region.wanted, hy])]
        exact ⟨Below.refl _ _, rfl⟩
      · intro v W ρ y hC kc kf ks ki ky ku kd
        have dg : v 7 = undef := kd _ (Array.mem_of_getElem? (i := 1) rfl) rfl
        have hy := ku 7 34 (by decide) rfl dg
        rw [if_neg (by simp [Region.wanted, hy])]
        exact ⟨Below.refl _ _, rfl⟩
      · intro v W ρ y hC kc kf ks ki ky ku kd
        have dg : v 11 = undef := kd _ (Array.mem_of_getElem? (i := 0) rfl) rfl
        have hy := ku 11 38 (by decide) rfl dg
        rw [if_neg (by simp [Region.wanted, hy])]
        exact ⟨Below.refl _ _, rfl⟩
      · intro v W ρ y hC kc kf ks ki ky ku kd
        have dg : v 11 = undef := kd _ (Array.mem_of_getElem? (i := 1) rfl) rfl
        have hy := ku 11 38 (by decide) rfl dg
        rw [if_neg (by simp [Region.wanted, hy])]
        exact ⟨Below.refl _ _, rfl⟩
      · intro v W ρ y hC kc kf ks ki ky ku kd
        have dg : v 11 = undef := kd _ (Array.mem_of_getElem? (i := 1) rfl) rfl
        have hy := ku 11 38 (by decide) rfl dg
        rw [if_neg (by simp [Region.wanted, hy])]
        exact ⟨Below.refl _ _, rfl⟩
      · intro v W ρ y hC kc kf ks ki ky ku kd
        have dg : v 7 = undef := kd _ (Array.mem_of_getElem? (i := 2) rfl) rfl
        have hy := ku 7 34 (by decide) rfl dg
        rw [if_neg (by simp [Region.wanted, hy])]
        exact ⟨Below.refl _ _, rfl⟩
      · intro v W ρ y hC kc kf ks ki ky ku kd
        have dg : v 3 = .bool true := kd _ (Array.mem_of_getElem? (i := 2) rfl) rfl
        have hy := ky 3 30 true (by decide) rfl dg
        rw [if_neg (by simp [Region.wanted, hy])]
        exact ⟨Below.refl _ _, rfl⟩
      · refine stepW_of_u ⟨rfl, fun v W ρ hC kc kf ks ki kd => ?_⟩
        have d3 : v 3 = .bool true := kd _ (Array.mem_of_getElem? (i := 0) rfl) rfl
        have t30 : ρ (.tmp 30) = v 3 := ks 3 30 (by decide) rfl
        rw [d3] at t30
        have d16 : v 16 = undef := kd _ (Array.mem_of_getElem? (i := 1) rfl) rfl
        have t43 : ρ (.tmp 43) = v 16 := ks 16 43 (by decide) rfl
        rw [d16] at t43
        simp [execOp, go_sem, t30, t43, kc]
        exact ⟨hC, Below.refl _ _, rfl⟩
      · refine stepW_of_u ⟨rfl, fun v W ρ hC kc kf ks ki kd => ?_⟩
        have d17 : v 17 = .bool true := kd _ (Array.mem_of_getElem? (i := 0) rfl) rfl
        have t44 : ρ (.tmp 44) = v 17 := ks 17 44 (by decide) rfl
        rw [d17] at t44
        simp [execOp, go_sem, t44]
        exact ⟨hC, Below.refl _ _, rfl⟩
      · intro v W ρ y hC kc kf ks ki ky ku kd
        have dg : v 18 = .bool true := kd _ (Array.mem_of_getElem? (i := 0) rfl) rfl
        have hy := ky 18 45 true (by decide) rfl dg
        rw [if_neg (by simp [Region.wanted, hy])]
        exact ⟨Below.refl _ _, rfl⟩
      · intro v W ρ y hC kc kf ks ki ky ku kd
        have dg : v 18 = .bool true := kd _ (Array.mem_of_getElem? (i := 1) rfl) rfl
        have hy := ky 18 45 true (by decide) rfl dg
        rw [if_neg (by simp [Region.wanted, hy])]
        exact ⟨Below.refl _ _, rfl⟩
      · intro v W ρ y hC kc kf ks ki ky ku kd
        have dg : v 18 = .bool true := kd _ (Array.mem_of_getElem? (i := 0) rfl) rfl
        have hy := ky 18 45 true (by decide) rfl dg
        rw [if_neg (by simp [Region.wanted, hy])]
        exact ⟨Below.refl _ _, rfl⟩
      · intro v W ρ y hC kc kf ks ki ky ku kd
        have dg : v 18 = .bool true := kd _ (Array.mem_of_getElem? (i := 1) rfl) rfl
        have hy := ky 18 45 true (by decide) rfl dg
        rw [if_neg (by simp [Region.wanted, hy])]
        exact ⟨Below.refl _ _, rfl⟩
      · intro v W ρ y hC kc kf ks ki ky ku kd
        have dg : v 18 = .bool true := kd _ (Array.mem_of_getElem? (i := 2) rfl) rfl
        have hy := ky 18 45 true (by decide) rfl dg
        rw [if_neg (by simp [Region.wanted, hy])]
        exact ⟨Below.refl _ _, rfl⟩
      · refine stepW_of_u ⟨rfl, fun v W ρ hC kc kf ks ki kd => ?_⟩
        have d18 : v 18 = .bool true := kd _ (Array.mem_of_getElem? (i := 0) rfl) rfl
        have t45 : ρ (.tmp 45) = v 18 := ks 18 45 (by decide) rfl
        rw [d18] at t45
        have d23 : v 23 = undef := kd _ (Array.mem_of_getElem? (i := 1) rfl) rfl
        have t50 : ρ (.tmp 50) = v 23 := ks 23 50 (by decide) rfl
        rw [d23] at t50
        simp [execOp, go_sem, t45, t50, kc]
        exact ⟨hC, Below.refl _ _, rfl⟩
      · refine stepW_of_u ⟨rfl, fun v W ρ hC kc kf ks ki kd => ?_⟩
        have d24 : v 24 = .bool true := kd _ (Array.mem_of_getElem? (i := 0) rfl) rfl
        have t51 : ρ (.tmp 51) = v 24 := ks 24 51 (by decide) rfl
        rw [d24] at t51
        simp [execOp, go_sem, t51]
        exact ⟨hC, Below.refl _ _, rfl⟩
      · intro v W ρ y hC kc kf ks ki ky ku kd
        have dg : v 25 = .bool true := kd _ (Array.mem_of_getElem? (i := 0) rfl) rfl
        have hy := ky 25 52 true (by decide) rfl dg
        rw [if_neg (by simp [Region.wanted, hy])]
        exact ⟨Below.refl _ _, rfl⟩
      · intro v W ρ y hC kc kf ks ki ky ku kd
        have dg : v 25 = .bool true := kd _ (Array.mem_of_getElem? (i := 1) rfl) rfl
        have hy := ky 25 52 true (by decide) rfl dg
        rw [if_neg (by simp [Region.wanted, hy])]
        exact ⟨Below.refl _ _, rfl⟩
      · intro v W ρ y hC kc kf ks ki ky ku kd
        have dg : v 25 = .bool true := kd _ (Array.mem_of_getElem? (i := 0) rfl) rfl
        have hy := ky 25 52 true (by decide) rfl dg
        rw [if_neg (by simp [Region.wanted, hy])]
        exact ⟨Below.refl _ _, rfl⟩
      · intro v W ρ y hC kc kf ks ki ky ku kd
        have dg : v 25 = .bool true := kd _ (Array.mem_of_getElem? (i := 1) rfl) rfl
        have hy := ky 25 52 true (by decide) rfl dg
        rw [if_neg (by simp [Region.wanted, hy])]
        exact ⟨Below.refl _ _, rfl⟩
      · intro v W ρ y hC kc kf ks ki ky ku kd
        have dg : v 25 = .bool true := kd _ (Array.mem_of_getElem? (i := 2) rfl) rfl
        have hy := ky 25 52 true (by decide) rfl dg
        rw [if_neg (by simp [Region.wanted, hy])]
        exact ⟨Below.refl _ _, rfl⟩
      · refine stepW_of_u ⟨rfl, fun v W ρ hC kc kf ks ki kd => ?_⟩
        have d25 : v 25 = .bool true := kd _ (Array.mem_of_getElem? (i := 0) rfl) rfl
        have t52 : ρ (.tmp 52) = v 25 := ks 25 52 (by decide) rfl
        rw [d25] at t52
        have d30 : v 30 = undef := kd _ (Array.mem_of_getElem? (i := 1) rfl) rfl
        have t57 : ρ (.tmp 57) = v 30 := ks 30 57 (by decide) rfl
        rw [d30] at t57
        simp [execOp, go_sem, t52, t57, kc]
        exact ⟨hC, Below.refl _ _, rfl⟩
    case fin =>
      intro v W hC hall
      have hL0 : v 31 = .bool true := hall 31 (by decide)
      simp [upto, Act.put]
      rw [hL0]
      clear hall hL0
      have hE3 : okI t x = false := by rw [hOK.out, hrx]; rfl
      have e1 : Hid (innerC p = 3) := by rw [hCx.out, if_pos hE3]; rfl
      have e2 : Hid (innerP p = zeroPk) := by rw [hPx.out, if_neg (by rw [e1.out]; decide)]; rfl
      have hGW := blk_later hG5 hC
      have hLW := hidS (hL5.out.trans (hC.mono hL5.out.size))
      have hPW := HP.out.later hC
      clear hE3 hOK hCx hPx hG5 hL5 HP H5 hC c0 c1 c2 c3 c4 c5 c6 c7 c8 c9
      have g0 := blk_cell hGW
      have gf := blk_free hGW
      go_wp2
      refine bodyPost_ret (v := .agg #[.int .i64 0, .int .i64 0, .int .i64 0, .int .i64 0, .int .i64 0, .int .i64 0, .int .i64 0, .int .i64 0, .int .i64 0, .string ⟨#[]⟩, .int .i64 3]) (by simp [results, Tryd.results18, go_sem, g0]) rfl ⟨by rw [e1.out, e2.out]; rfl, ?_⟩
      iterate 11 (refine below_at ?_ (Nat.le_succ _))
      exact hLW.out
  cases hp1 : (x.proto == 1)
  · skip
    cases he1 : ((t.extract 0 2).toList == (h.extract 0 2).toList)
    · skip
      go_wp2_with fail
      refine grow_guarded 32 [.is (.agg #[.int .i64 x.src, .int .i64 x.dst, .int .i64 x.proto, .int .i64 x.a, .int .i64 x.b, .int .i64 x.kind, .int .i64 x.flags, .int .i64 x.seq, .int .i64 x.ack, .string x.body]), .is (.bool true), .is (.bool false), .is (.bool false), .is (.pointer (some ⟨w3.heap.size, 2, none⟩)), .is (.int .i64 x.proto), .is (.bool false), .is (.bool false), .is (undef), .is (undef), .is (undef), .is (undef), .is (undef), .is (undef), .is (undef), .is (undef), .is (.bool false), .is (.bool false), .is (.bool false), .is (.string t), .is (.string (t.extract 0 2)), .is (.string h), .is (.string (h.extract 0 2)), .is (.bool true), .is (.bool true), .is (.bool true), .is (undef), .is (undef), .is (undef), .is (undef), .is (undef), .is (.bool true)] rfl (by kernel_rfl) (by kernel_rfl) ?steps ?fin
      case steps =>
        refine ⟨?_, ?_, ?_, ?_, ?_, ?_, ?_, ?_, ?_, ?_, ?_, ?_, ?_, ?_, ?_, ?_, ?_, ?_, ?_, ?_, ?_, ?_, ?_, ?_, ?_, ?_, ?_, ?_, ?_, ?_, ?_, ?_, trivial⟩
        · refine stepW_of_u ⟨rfl, fun v W ρ hC kc kf ks ki kd => ?_⟩
          have t4 : ρ (.tmp 4) = .pointer (some ⟨w3.heap.size, 0, none⟩) := ki 4 (by decide)
          have hp := HP.out.later hC
          obtain ⟨c0, c1, c2, c3, c4, c5, c6, c7, c8, c9⟩ := hp
          simp [execOp, go_sem, t4, c0, c1, c2, c3, c4, c5, c6, c7, c8, c9]
          exact ⟨hC, Below.refl _ _, rfl⟩
        · refine stepW_of_u ⟨rfl, fun v W ρ hC kc kf ks ki kd => ?_⟩
          have d0 : v 0 = .agg #[.int .i64 x.src, .int .i64 x.dst, .int .i64 x.proto, .int .i64 x.a, .int .i64 x.b, .int .i64 x.kind, .int .i64 x.flags, .int .i64 x.seq, .int .i64 x.ack, .string x.body] := kd _ (Array.mem_of_getElem? (i := 0) rfl) rfl
          have t27 : ρ (.tmp 27) = v 0 := ks 0 27 (by decide) rfl
          rw [d0] at t27
          simp [execOp, go_sem, t27, kf]
          exact Calls.mono (specRight_is x _ hxb hrx) (fun e x h => ⟨_, h.1, hC.trans (h.2.mono hC.size), h.2, rfl⟩)
        · refine stepW_of_u ⟨rfl, fun v W ρ hC kc kf ks ki kd => ?_⟩
          have d1 : v 1 = .bool true := kd _ (Array.mem_of_getElem? (i := 0) rfl) rfl
          have t28 : ρ (.tmp 28) = v 1 := ks 1 28 (by decide) rfl
          rw [d1] at t28
          simp [execOp, go_sem, t28]
          exact ⟨hC, Below.refl _ _, rfl⟩
        · refine stepW_of_u ⟨rfl, fun v W ρ hC kc kf ks ki kd => ?_⟩
          have d2 : v 2 = .bool false := kd _ (Array.mem_of_getElem? (i := 0) rfl) rfl
          have t29 : ρ (.tmp 29) = v 2 := ks 2 29 (by decide) rfl
          rw [d2] at t29
          simp [execOp, go_sem, t29]
          exact ⟨hC, Below.refl _ _, rfl⟩
        · intro v W ρ y hC kc kf ks ki ky ku kd
          have dg : v 3 = .bool false := kd _ (Array.mem_of_getElem? (i := 0) rfl) rfl
          have hy := ky 3 30 false (by decide) rfl dg
          rw [if_pos (by simp [Region.wanted, hy])]
          have t4 : ρ (.tmp 4) = .pointer (some ⟨w3.heap.size, 0, none⟩) := ki 4 (by decide)
          simp [execOp, go_sem, t4]
          exact ⟨hC, Below.refl _ _, rfl⟩
        · intro v W ρ y hC kc kf ks ki ky ku kd
          have dg : v 3 = .bool false := kd _ (Array.mem_of_getElem? (i := 1) rfl) rfl
          have hy := ky 3 30 false (by decide) rfl dg
          rw [if_pos (by simp [Region.wanted, hy])]
          have d4 : v 4 = .pointer (some ⟨w3.heap.size, 2, none⟩) := kd _ (Array.mem_of_getElem? (i := 0) rfl) rfl
          have t31 : ρ (.tmp 31) = v 4 := ks 4 31 (by decide) rfl
          rw [d4] at t31
          have hp := HP.out.later hC
          obtain ⟨c0, c1, c2, c3, c4, c5, c6, c7, c8, c9⟩ := hp
          simp [execOp, go_sem, t31, c2]
          exact ⟨hC, Below.refl _ _, rfl⟩
        · intro v W ρ y hC kc kf ks ki ky ku kd
          have dg : v 3 = .bool false := kd _ (Array.mem_of_getElem? (i := 1) rfl) rfl
          have hy := ky 3 30 false (by decide) rfl dg
          rw [if_pos (by simp [Region.wanted, hy])]
          have d5 : v 5 = .int .i64 x.proto := kd _ (Array.mem_of_getElem? (i := 0) rfl) rfl
          have t32 : ρ (.tmp 32) = v 5 := ks 5 32 (by decide) rfl
          rw [d5] at t32
          simp [execOp, go_sem, t32, hp1, kc]
          exact ⟨hC, Below.refl _ _, rfl⟩
        · intro v W ρ y hC kc kf ks ki ky ku kd
          have dg : v 3 = .bool false := kd _ (Array.mem_of_getElem? (i := 1) rfl) rfl
          have hy := ky 3 30 false (by decide) rfl dg
          rw [if_pos (by simp [Region.wanted, hy])]
          have d6 : v 6 = .bool false := kd _ (Array.mem_of_getElem? (i := 0) rfl) rfl
          have t33 : ρ (.tmp 33) = v 6 := ks 6 33 (by decide) rfl
          rw [d6] at t33
          simp [execOp, go_sem, t33]
          exact ⟨hC, Below.refl _ _, rfl⟩
        · intro v W ρ y hC kc kf ks ki ky ku kd
          have dg : v 7 = .bool false := kd _ (Array.mem_of_getElem? (i := 0) rfl) rfl
          have hy := ky 7 34 false (by decide) rfl dg
          rw [if_neg (by simp [Region.wanted, hy])]
          exact ⟨Below.refl _ _, rfl⟩
        · intro v W ρ y hC kc kf ks ki ky ku kd
          have dg : v 7 = .bool false := kd _ (Array.mem_of_getElem? (i := 1) rfl) rfl
          have hy := ky 7 34 false (by decide) rfl dg
          rw [if_neg (by simp [Region.wanted, hy])]
          exact ⟨Below.refl _ _, rfl⟩
        · intro v W ρ y hC kc kf ks ki ky ku kd
          have dg : v 7 = .bool false := kd _ (Array.mem_of_getElem? (i := 1) rfl) rfl
          have hy := ky 7 34 false (by decide) rfl dg
          rw [if_neg (by simp [Region.wanted, hy])]
          exact ⟨Below.refl _ _, rfl⟩
        · intro v W ρ y hC kc kf ks ki ky ku kd
          have dg : v 7 = .bool false := kd _ (Array.mem_of_getElem? (i := 1) rfl) rfl
          have hy := ky 7 34 false (by decide) rfl dg
          rw [if_neg (by simp [Region.wanted, hy])]
          exact ⟨Below.refl _ _, rfl⟩
        · intro v W ρ y hC kc kf ks ki ky ku kd
          have dg : v 11 = undef := kd _ (Array.mem_of_getElem? (i := 0) rfl) rfl
          have hy := ku 11 38 (by decide) rfl dg
          rw [if_neg (by simp [Region.wanted, hy])]
          exact ⟨Below.refl _ _, rfl⟩
        · intro v W ρ y hC kc kf ks ki ky ku kd
          have dg : v 11 = undef := kd _ (Array.mem_of_getElem? (i := 1) rfl) rfl
          have hy := ku 11 38 (by decide) rfl dg
          rw [if_neg (by simp [Region.wanted, hy])]
          exact ⟨Below.refl _ _, rfl⟩
        · intro v W ρ y hC kc kf ks ki ky ku kd
          have dg : v 11 = undef := kd _ (Array.mem_of_getElem? (i := 1) rfl) rfl
          have hy := ku 11 38 (by decide) rfl dg
          rw [if_neg (by simp [Region.wanted, hy])]
          exact ⟨Below.refl _ _, rfl⟩
        · intro v W ρ y hC kc kf ks ki ky ku kd
          have dg : v 7 = .bool false := kd _ (Array.mem_of_getElem? (i := 2) rfl) rfl
          have hy := ky 7 34 false (by decide) rfl dg
          rw [if_neg (by simp [Region.wanted, hy])]
          exact ⟨Below.refl _ _, rfl⟩
        · intro v W ρ y hC kc kf ks ki ky ku kd
          have dg : v 3 = .bool false := kd _ (Array.mem_of_getElem? (i := 2) rfl) rfl
          have hy := ky 3 30 false (by decide) rfl dg
          rw [if_pos (by simp [Region.wanted, hy])]
          have d7 : v 7 = .bool false := kd _ (Array.mem_of_getElem? (i := 0) rfl) rfl
          have t34 : ρ (.tmp 34) = v 7 := ks 7 34 (by decide) rfl
          rw [d7] at t34
          have d15 : v 15 = undef := kd _ (Array.mem_of_getElem? (i := 1) rfl) rfl
          have t42 : ρ (.tmp 42) = v 15 := ks 15 42 (by decide) rfl
          rw [d15] at t42
          simp [execOp, go_sem, t34, t42, kc]
          exact ⟨hC, Below.refl _ _, rfl⟩
        · refine stepW_of_u ⟨rfl, fun v W ρ hC kc kf ks ki kd => ?_⟩
          have d3 : v 3 = .bool false := kd _ (Array.mem_of_getElem? (i := 0) rfl) rfl
          have t30 : ρ (.tmp 30) = v 3 := ks 3 30 (by decide) rfl
          rw [d3] at t30
          have d16 : v 16 = .bool false := kd _ (Array.mem_of_getElem? (i := 1) rfl) rfl
          have t43 : ρ (.tmp 43) = v 16 := ks 16 43 (by decide) rfl
          rw [d16] at t43
          simp [execOp, go_sem, t30, t43, kc]
          exact ⟨hC, Below.refl _ _, rfl⟩
        · refine stepW_of_u ⟨rfl, fun v W ρ hC kc kf ks ki kd => ?_⟩
          have d17 : v 17 = .bool false := kd _ (Array.mem_of_getElem? (i := 0) rfl) rfl
          have t44 : ρ (.tmp 44) = v 17 := ks 17 44 (by decide) rfl
          rw [d17] at t44
          simp [execOp, go_sem, t44]
          exact ⟨hC, Below.refl _ _, rfl⟩
        · intro v W ρ y hC kc kf ks ki ky ku kd
          have dg : v 18 = .bool false := kd _ (Array.mem_of_getElem? (i := 0) rfl) rfl
          have hy := ky 18 45 false (by decide) rfl dg
          rw [if_pos (by simp [Region.wanted, hy])]
          have t3 : ρ (.tmp 3) = .string t := ki 3 (by decide)
          simp [execOp, go_sem, t3]
          exact ⟨hC, Below.refl _ _, rfl⟩
        · intro v W ρ y hC kc kf ks ki ky ku kd
          have dg : v 18 = .bool false := kd _ (Array.mem_of_getElem? (i := 1) rfl) rfl
          have hy := ky 18 45 false (by decide) rfl dg
          rw [if_pos (by simp [Region.wanted, hy])]
          have d19 : v 19 = .string t := kd _ (Array.mem_of_getElem? (i := 0) rfl) rfl
          have t46 : ρ (.tmp 46) = v 19 := ks 19 46 (by decide) rfl
          rw [d19] at t46
          simp [execOp, go_sem, t46, hts, hhz, kc]
          exact ⟨hC, Below.refl _ _, rfl⟩
        · intro v W ρ y hC kc kf ks ki ky ku kd
          have dg : v 18 = .bool false := kd _ (Array.mem_of_getElem? (i := 0) rfl) rfl
          have hy := ky 18 45 false (by decide) rfl dg
          rw [if_pos (by simp [Region.wanted, hy])]
          have t5 : ρ (.tmp 5) = .string h := ki 5 (by decide)
          simp [execOp, go_sem, t5]
          exact ⟨hC, Below.refl _ _, rfl⟩
        · intro v W ρ y hC kc kf ks ki ky ku kd
          have dg : v 18 = .bool false := kd _ (Array.mem_of_getElem? (i := 1) rfl) rfl
          have hy := ky 18 45 false (by decide) rfl dg
          rw [if_pos (by simp [Region.wanted, hy])]
          have d21 : v 21 = .string h := kd _ (Array.mem_of_getElem? (i := 0) rfl) rfl
          have t48 : ρ (.tmp 48) = v 21 := ks 21 48 (by decide) rfl
          rw [d21] at t48
          simp [execOp, go_sem, t48, hts, hhz, kc]
          exact ⟨hC, Below.refl _ _, rfl⟩
        · intro v W ρ y hC kc kf ks ki ky ku kd
          have dg : v 18 = .bool false := kd _ (Array.mem_of_getElem? (i := 2) rfl) rfl
          have hy := ky 18 45 false (by decide) rfl dg
          rw [if_pos (by simp [Region.wanted, hy])]
          have d20 : v 20 = .string (t.extract 0 2) := kd _ (Array.mem_of_getElem? (i := 0) rfl) rfl
          have t47 : ρ (.tmp 47) = v 20 := ks 20 47 (by decide) rfl
          rw [d20] at t47
          have d22 : v 22 = .string (h.extract 0 2) := kd _ (Array.mem_of_getElem? (i := 1) rfl) rfl
          have t49 : ρ (.tmp 49) = v 22 := ks 22 49 (by decide) rfl
          rw [d22] at t49
          simp [execOp, go_sem, t47, t49, he1]
          exact ⟨hC, Below.refl _ _, rfl⟩
        · refine stepW_of_u ⟨rfl, fun v W ρ hC kc kf ks ki kd => ?_⟩
          have d18 : v 18 = .bool false := kd _ (Array.mem_of_getElem? (i := 0) rfl) rfl
          have t45 : ρ (.tmp 45) = v 18 := ks 18 45 (by decide) rfl
          rw [d18] at t45
          have d23 : v 23 = .bool true := kd _ (Array.mem_of_getElem? (i := 1) rfl) rfl
          have t50 : ρ (.tmp 50) = v 23 := ks 23 50 (by decide) rfl
          rw [d23] at t50
          simp [execOp, go_sem, t45, t50, kc]
          exact ⟨hC, Below.refl _ _, rfl⟩
        · refine stepW_of_u ⟨rfl, fun v W ρ hC kc kf ks ki kd => ?_⟩
          have d24 : v 24 = .bool true := kd _ (Array.mem_of_getElem? (i := 0) rfl) rfl
          have t51 : ρ (.tmp 51) = v 24 := ks 24 51 (by decide) rfl
          rw [d24] at t51
          simp [execOp, go_sem, t51]
          exact ⟨hC, Below.refl _ _, rfl⟩
        · intro v W ρ y hC kc kf ks ki ky ku kd
          have dg : v 25 = .bool true := kd _ (Array.mem_of_getElem? (i := 0) rfl) rfl
          have hy := ky 25 52 true (by decide) rfl dg
          rw [if_neg (by simp [Region.wanted, hy])]
          exact ⟨Below.refl _ _, rfl⟩
        · intro v W ρ y hC kc kf ks ki ky ku kd
          have dg : v 25 = .bool true := kd _ (Array.mem_of_getElem? (i := 1) rfl) rfl
          have hy := ky 25 52 true (by decide) rfl dg
          rw [if_neg (by simp [Region.wanted, hy])]
          exact ⟨Below.refl _ _, rfl⟩
        · intro v W ρ y hC kc kf ks ki ky ku kd
          have dg : v 25 = .bool true := kd _ (Array.mem_of_getElem? (i := 0) rfl) rfl
          have hy := ky 25 52 true (by decide) rfl dg
          rw [if_neg (by simp [Region.wanted, hy])]
          exact ⟨Below.refl _ _, rfl⟩
        · intro v W ρ y hC kc kf ks ki ky ku kd
          have dg : v 25 = .bool true := kd _ (Array.mem_of_getElem? (i := 1) rfl) rfl
          have hy := ky 25 52 true (by decide) rfl dg
          rw [if_neg (by simp [Region.wanted, hy])]
          exact ⟨Below.refl _ _, rfl⟩
        · intro v W ρ y hC kc kf ks ki ky ku kd
          have dg : v 25 = .bool true := kd _ (Array.mem_of_getElem? (i := 2) rfl) rfl
          have hy := ky 25 52 true (by decide) rfl dg
          rw [if_neg (by simp [Region.wanted, hy])]
          exact ⟨Below.refl _ _, rfl⟩
        · refine stepW_of_u ⟨rfl, fun v W ρ hC kc kf ks ki kd => ?_⟩
          have d25 : v 25 = .bool true := kd _ (Array.mem_of_getElem? (i := 0) rfl) rfl
          have t52 : ρ (.tmp 52) = v 25 := ks 25 52 (by decide) rfl
          rw [d25] at t52
          have d30 : v 30 = undef := kd _ (Array.mem_of_getElem? (i := 1) rfl) rfl
          have t57 : ρ (.tmp 57) = v 30 := ks 30 57 (by decide) rfl
          rw [d30] at t57
          simp [execOp, go_sem, t52, t57, kc]
          exact ⟨hC, Below.refl _ _, rfl⟩
      case fin =>
        intro v W hC hall
        have hL0 : v 31 = .bool true := hall 31 (by decide)
        simp [upto, Act.put]
        rw [hL0]
        clear hall hL0
        have hE3 : okI t x = false := by rw [hOK.out, hrx, hp1, he1]; rfl
        have e1 : Hid (innerC p = 3) := by rw [hCx.out, if_pos hE3]; rfl
        have e2 : Hid (innerP p = zeroPk) := by rw [hPx.out, if_neg (by rw [e1.out]; decide)]; rfl
        have hGW := blk_later hG5 hC
        have hLW := hidS (hL5.out.trans (hC.mono hL5.out.size))
        have hPW := HP.out.later hC
        clear hE3 hOK hCx hPx hG5 hL5 HP H5 hC c0 c1 c2 c3 c4 c5 c6 c7 c8 c9
        have g0 := blk_cell hGW
        have gf := blk_free hGW
        go_wp2
        refine bodyPost_ret (v := .agg #[.int .i64 0, .int .i64 0, .int .i64 0, .int .i64 0, .int .i64 0, .int .i64 0, .int .i64 0, .int .i64 0, .int .i64 0, .string ⟨#[]⟩, .int .i64 3]) (by simp [results, Tryd.results18, go_sem, g0]) rfl ⟨by rw [e1.out, e2.out]; rfl, ?_⟩
        iterate 11 (refine below_at ?_ (Nat.le_succ _))
        exact hLW.out
    cases he2 : ((t.extract 4 10).toList == (h.extract 4 10).toList)
    · skip
      go_wp2_with fail
      refine grow_guarded 32 [.is (.agg #[.int .i64 x.src, .int .i64 x.dst, .int .i64 x.proto, .int .i64 x.a, .int .i64 x.b, .int .i64 x.kind, .int .i64 x.flags, .int .i64 x.seq, .int .i64 x.ack, .string x.body]), .is (.bool true), .is (.bool false), .is (.bool false), .is (.pointer (some ⟨w3.heap.size, 2, none⟩)), .is (.int .i64 x.proto), .is (.bool false), .is (.bool false), .is (undef), .is (undef), .is (undef), .is (undef), .is (undef), .is (undef), .is (undef), .is (undef), .is (.bool false), .is (.bool false), .is (.bool false), .is (.string t), .is (.string (t.extract 0 2)), .is (.string h), .is (.string (h.extract 0 2)), .is (.bool false), .is (.bool false), .is (.bool false), .is (.string t), .is (.string (t.extract 4 10)), .is (.string h), .is (.string (h.extract 4 10)), .is (.bool true), .is (.bool true)] rfl (by kernel_rfl) (by kernel_rfl) ?steps ?fin
      case steps =>
        refine ⟨?_, ?_, ?_, ?_, ?_, ?_, ?_, ?_, ?_, ?_, ?_, ?_, ?_, ?_, ?_, ?_, ?_, ?_, ?_, ?_, ?_, ?_, ?_, ?_, ?_, ?_, ?_, ?_, ?_, ?_, ?_, ?_, trivial⟩
        · refine stepW_of_u ⟨rfl, fun v W ρ hC kc kf ks ki kd => ?_⟩
          have t4 : ρ (.tmp 4) = .pointer (some ⟨w3.heap.size, 0, none⟩) := ki 4 (by decide)
          have hp := HP.out.later hC
          obtain ⟨c0, c1, c2, c3, c4, c5, c6, c7, c8, c9⟩ := hp
          simp [execOp, go_sem, t4, c0, c1, c2, c3, c4, c5, c6, c7, c8, c9]
          exact ⟨hC, Below.refl _ _, rfl⟩
        · refine stepW_of_u ⟨rfl, fun v W ρ hC kc kf ks ki kd => ?_⟩
          have d0 : v 0 = .agg #[.int .i64 x.src, .int .i64 x.dst, .int .i64 x.proto, .int .i64 x.a, .int .i64 x.b, .int .i64 x.kind, .int .i64 x.flags, .int .i64 x.seq, .int .i64 x.ack, .string x.body] := kd _ (Array.mem_of_getElem? (i := 0) rfl) rfl
          have t27 : ρ (.tmp 27) = v 0 := ks 0 27 (by decide) rfl
          rw [d0] at t27
          simp [execOp, go_sem, t27, kf]
          exact Calls.mono (specRight_is x _ hxb hrx) (fun e x h => ⟨_, h.1, hC.trans (h.2.mono hC.size), h.2, rfl⟩)
        · refine stepW_of_u ⟨rfl, fun v W ρ hC kc kf ks ki kd => ?_⟩
          have d1 : v 1 = .bool true := kd _ (Array.mem_of_getElem? (i := 0) rfl) rfl
          have t28 : ρ (.tmp 28) = v 1 := ks 1 28 (by decide) rfl
          rw [d1] at t28
          simp [execOp, go_sem, t28]
          exact ⟨hC, Below.refl _ _, rfl⟩
        · refine stepW_of_u ⟨rfl, fun v W ρ hC kc kf ks ki kd => ?_⟩
          have d2 : v 2 = .bool false := kd _ (Array.mem_of_getElem? (i := 0) rfl) rfl
          have t29 : ρ (.tmp 29) = v 2 := ks 2 29 (by decide) rfl
          rw [d2] at t29
          simp [execOp, go_sem, t29]
          exact ⟨hC, Below.refl _ _, rfl⟩
        · intro v W ρ y hC kc kf ks ki ky ku kd
          have dg : v 3 = .bool false := kd _ (Array.mem_of_getElem? (i := 0) rfl) rfl
          have hy := ky 3 30 false (by decide) rfl dg
          rw [if_pos (by simp [Region.wanted, hy])]
          have t4 : ρ (.tmp 4) = .pointer (some ⟨w3.heap.size, 0, none⟩) := ki 4 (by decide)
          simp [execOp, go_sem, t4]
          exact ⟨hC, Below.refl _ _, rfl⟩
        · intro v W ρ y hC kc kf ks ki ky ku kd
          have dg : v 3 = .bool false := kd _ (Array.mem_of_getElem? (i := 1) rfl) rfl
          have hy := ky 3 30 false (by decide) rfl dg
          rw [if_pos (by simp [Region.wanted, hy])]
          have d4 : v 4 = .pointer (some ⟨w3.heap.size, 2, none⟩) := kd _ (Array.mem_of_getElem? (i := 0) rfl) rfl
          have t31 : ρ (.tmp 31) = v 4 := ks 4 31 (by decide) rfl
          rw [d4] at t31
          have hp := HP.out.later hC
          obtain ⟨c0, c1, c2, c3, c4, c5, c6, c7, c8, c9⟩ := hp
          simp [execOp, go_sem, t31, c2]
          exact ⟨hC, Below.refl _ _, rfl⟩
        · intro v W ρ y hC kc kf ks ki ky ku kd
          have dg : v 3 = .bool false := kd _ (Array.mem_of_getElem? (i := 1) rfl) rfl
          have hy := ky 3 30 false (by decide) rfl dg
          rw [if_pos (by simp [Region.wanted, hy])]
          have d5 : v 5 = .int .i64 x.proto := kd _ (Array.mem_of_getElem? (i := 0) rfl) rfl
          have t32 : ρ (.tmp 32) = v 5 := ks 5 32 (by decide) rfl
          rw [d5] at t32
          simp [execOp, go_sem, t32, hp1, kc]
          exact ⟨hC, Below.refl _ _, rfl⟩
        · intro v W ρ y hC kc kf ks ki ky ku kd
          have dg : v 3 = .bool false := kd _ (Array.mem_of_getElem? (i := 1) rfl) rfl
          have hy := ky 3 30 false (by decide) rfl dg
          rw [if_pos (by simp [Region.wanted, hy])]
          have d6 : v 6 = .bool false := kd _ (Array.mem_of_getElem? (i := 0) rfl) rfl
          have t33 : ρ (.tmp 33) = v 6 := ks 6 33 (by decide) rfl
          rw [d6] at t33
          simp [execOp, go_sem, t33]
          exact ⟨hC, Below.refl _ _, rfl⟩
        · intro v W ρ y hC kc kf ks ki ky ku kd
          have dg : v 7 = .bool false := kd _ (Array.mem_of_getElem? (i := 0) rfl) rfl
          have hy := ky 7 34 false (by decide) rfl dg
          rw [if_neg (by simp [Region.wanted, hy])]
          exact ⟨Below.refl _ _, rfl⟩
        · intro v W ρ y hC kc kf ks ki ky ku kd
          have dg : v 7 = .bool false := kd _ (Array.mem_of_getElem? (i := 1) rfl) rfl
          have hy := ky 7 34 false (by decide) rfl dg
          rw [if_neg (by simp [Region.wanted, hy])]
          exact ⟨Below.refl _ _, rfl⟩
        · intro v W ρ y hC kc kf ks ki ky ku kd
          have dg : v 7 = .bool false := kd _ (Array.mem_of_getElem? (i := 1) rfl) rfl
          have hy := ky 7 34 false (by decide) rfl dg
          rw [if_neg (by simp [Region.wanted, hy])]
          exact ⟨Below.refl _ _, rfl⟩
        · intro v W ρ y hC kc kf ks ki ky ku kd
          have dg : v 7 = .bool false := kd _ (Array.mem_of_getElem? (i := 1) rfl) rfl
          have hy := ky 7 34 false (by decide) rfl dg
          rw [if_neg (by simp [Region.wanted, hy])]
          exact ⟨Below.refl _ _, rfl⟩
        · intro v W ρ y hC kc kf ks ki ky ku kd
          have dg : v 11 = undef := kd _ (Array.mem_of_getElem? (i := 0) rfl) rfl
          have hy := ku 11 38 (by decide) rfl dg
          rw [if_neg (by simp [Region.wanted, hy])]
          exact ⟨Below.refl _ _, rfl⟩
        · intro v W ρ y hC kc kf ks ki ky ku kd
          have dg : v 11 = undef := kd _ (Array.mem_of_getElem? (i := 1) rfl) rfl
          have hy := ku 11 38 (by decide) rfl dg
          rw [if_neg (by simp [Region.wanted, hy])]
          exact ⟨Below.refl _ _, rfl⟩
        · intro v W ρ y hC kc kf ks ki ky ku kd
          have dg : v 11 = undef := kd _ (Array.mem_of_getElem? (i := 1) rfl) rfl
          have hy := ku 11 38 (by decide) rfl dg
          rw [if_neg (by simp [Region.wanted, hy])]
          exact ⟨Below.refl _ _, rfl⟩
        · intro v W ρ y hC kc kf ks ki ky ku kd
          have dg : v 7 = .bool false := kd _ (Array.mem_of_getElem? (i := 2) rfl) rfl
          have hy := ky 7 34 false (by decide) rfl dg
          rw [if_neg (by simp [Region.wanted, hy])]
          exact ⟨Below.refl _ _, rfl⟩
        · intro v W ρ y hC kc kf ks ki ky ku kd
          have dg : v 3 = .bool false := kd _ (Array.mem_of_getElem? (i := 2) rfl) rfl
          have hy := ky 3 30 false (by decide) rfl dg
          rw [if_pos (by simp [Region.wanted, hy])]
          have d7 : v 7 = .bool false := kd _ (Array.mem_of_getElem? (i := 0) rfl) rfl
          have t34 : ρ (.tmp 34) = v 7 := ks 7 34 (by decide) rfl
          rw [d7] at t34
          have d15 : v 15 = undef := kd _ (Array.mem_of_getElem? (i := 1) rfl) rfl
          have t42 : ρ (.tmp 42) = v 15 := ks 15 42 (by decide) rfl
          rw [d15] at t42
          simp [execOp, go_sem, t34, t42, kc]
          exact ⟨hC, Below.refl _ _, rfl⟩
        · refine stepW_of_u ⟨rfl, fun v W ρ hC kc kf ks ki kd => ?_⟩
          have d3 : v 3 = .bool false := kd _ (Array.mem_of_getElem? (i := 0) rfl) rfl
          have t30 : ρ (.tmp 30) = v 3 := ks 3 30 (by decide) rfl
          rw [d3] at t30
          have d16 : v 16 = .bool false := kd _ (Array.mem_of_getElem? (i := 1) rfl) rfl
          have t43 : ρ (.tmp 43) = v 16 := ks 16 43 (by decide) rfl
          rw [d16] at t43
          simp [execOp, go_sem, t30, t43, kc]
          exact ⟨hC, Below.refl _ _, rfl⟩
        · refine stepW_of_u ⟨rfl, fun v W ρ hC kc kf ks ki kd => ?_⟩
          have d17 : v 17 = .bool false := kd _ (Array.mem_of_getElem? (i := 0) rfl) rfl
          have t44 : ρ (.tmp 44) = v 17 := ks 17 44 (by decide) rfl
          rw [d17] at t44
          simp [execOp, go_sem, t44]
          exact ⟨hC, Below.refl _ _, rfl⟩
        · intro v W ρ y hC kc kf ks ki ky ku kd
          have dg : v 18 = .bool false := kd _ (Array.mem_of_getElem? (i := 0) rfl) rfl
          have hy := ky 18 45 false (by decide) rfl dg
          rw [if_pos (by simp [Region.wanted, hy])]
          have t3 : ρ (.tmp 3) = .string t := ki 3 (by decide)
          simp [execOp, go_sem, t3]
          exact ⟨hC, Below.refl _ _, rfl⟩
        · intro v W ρ y hC kc kf ks ki ky ku kd
          have dg : v 18 = .bool false := kd _ (Array.mem_of_getElem? (i := 1) rfl) rfl
          have hy := ky 18 45 false (by decide) rfl dg
          rw [if_pos (by simp [Region.wanted, hy])]
          have d19 : v 19 = .string t := kd _ (Array.mem_of_getElem? (i := 0) rfl) rfl
          have t46 : ρ (.tmp 46) = v 19 := ks 19 46 (by decide) rfl
          rw [d19] at t46
          simp [execOp, go_sem, t46, hts, hhz, kc]
          exact ⟨hC, Below.refl _ _, rfl⟩
        · intro v W ρ y hC kc kf ks ki ky ku kd
          have dg : v 18 = .bool false := kd _ (Array.mem_of_getElem? (i := 0) rfl) rfl
          have hy := ky 18 45 false (by decide) rfl dg
          rw [if_pos (by simp [Region.wanted, hy])]
          have t5 : ρ (.tmp 5) = .string h := ki 5 (by decide)
          simp [execOp, go_sem, t5]
          exact ⟨hC, Below.refl _ _, rfl⟩
        · intro v W ρ y hC kc kf ks ki ky ku kd
          have dg : v 18 = .bool false := kd _ (Array.mem_of_getElem? (i := 1) rfl) rfl
          have hy := ky 18 45 false (by decide) rfl dg
          rw [if_pos (by simp [Region.wanted, hy])]
          have d21 : v 21 = .string h := kd _ (Array.mem_of_getElem? (i := 0) rfl) rfl
          have t48 : ρ (.tmp 48) = v 21 := ks 21 48 (by decide) rfl
          rw [d21] at t48
          simp [execOp, go_sem, t48, hts, hhz, kc]
          exact ⟨hC, Below.refl _ _, rfl⟩
        · intro v W ρ y hC kc kf ks ki ky ku kd
          have dg : v 18 = .bool false := kd _ (Array.mem_of_getElem? (i := 2) rfl) rfl
          have hy := ky 18 45 false (by decide) rfl dg
          rw [if_pos (by simp [Region.wanted, hy])]
          have d20 : v 20 = .string (t.extract 0 2) := kd _ (Array.mem_of_getElem? (i := 0) rfl) rfl
          have t47 : ρ (.tmp 47) = v 20 := ks 20 47 (by decide) rfl
          rw [d20] at t47
          have d22 : v 22 = .string (h.extract 0 2) := kd _ (Array.mem_of_getElem? (i := 1) rfl) rfl
          have t49 : ρ (.tmp 49) = v 22 := ks 22 49 (by decide) rfl
          rw [d22] at t49
          simp [execOp, go_sem, t47, t49, he1]
          exact ⟨hC, Below.refl _ _, rfl⟩
        · refine stepW_of_u ⟨rfl, fun v W ρ hC kc kf ks ki kd => ?_⟩
          have d18 : v 18 = .bool false := kd _ (Array.mem_of_getElem? (i := 0) rfl) rfl
          have t45 : ρ (.tmp 45) = v 18 := ks 18 45 (by decide) rfl
          rw [d18] at t45
          have d23 : v 23 = .bool false := kd _ (Array.mem_of_getElem? (i := 1) rfl) rfl
          have t50 : ρ (.tmp 50) = v 23 := ks 23 50 (by decide) rfl
          rw [d23] at t50
          simp [execOp, go_sem, t45, t50, kc]
          exact ⟨hC, Below.refl _ _, rfl⟩
        · refine stepW_of_u ⟨rfl, fun v W ρ hC kc kf ks ki kd => ?_⟩
          have d24 : v 24 = .bool false := kd _ (Array.mem_of_getElem? (i := 0) rfl) rfl
          have t51 : ρ (.tmp 51) = v 24 := ks 24 51 (by decide) rfl
          rw [d24] at t51
          simp [execOp, go_sem, t51]
          exact ⟨hC, Below.refl _ _, rfl⟩
        · intro v W ρ y hC kc kf ks ki ky ku kd
          have dg : v 25 = .bool false := kd _ (Array.mem_of_getElem? (i := 0) rfl) rfl
          have hy := ky 25 52 false (by decide) rfl dg
          rw [if_pos (by simp [Region.wanted, hy])]
          have t3 : ρ (.tmp 3) = .string t := ki 3 (by decide)
          simp [execOp, go_sem, t3]
          exact ⟨hC, Below.refl _ _, rfl⟩
        · intro v W ρ y hC kc kf ks ki ky ku kd
          have dg : v 25 = .bool false := kd _ (Array.mem_of_getElem? (i := 1) rfl) rfl
          have hy := ky 25 52 false (by decide) rfl dg
          rw [if_pos (by simp [Region.wanted, hy])]
          have d26 : v 26 = .string t := kd _ (Array.mem_of_getElem? (i := 0) rfl) rfl
          have t53 : ρ (.tmp 53) = v 26 := ks 26 53 (by decide) rfl
          rw [d26] at t53
          simp [execOp, go_sem, t53, hts, hhz, kc]
          exact ⟨hC, Below.refl _ _, rfl⟩
        · intro v W ρ y hC kc kf ks ki ky ku kd
          have dg : v 25 = .bool false := kd _ (Array.mem_of_getElem? (i := 0) rfl) rfl
          have hy := ky 25 52 false (by decide) rfl dg
          rw [if_pos (by simp [Region.wanted, hy])]
          have t5 : ρ (.tmp 5) = .string h := ki 5 (by decide)
          simp [execOp, go_sem, t5]
          exact ⟨hC, Below.refl _ _, rfl⟩
        · intro v W ρ y hC kc kf ks ki ky ku kd
          have dg : v 25 = .bool false := kd _ (Array.mem_of_getElem? (i := 1) rfl) rfl
          have hy := ky 25 52 false (by decide) rfl dg
          rw [if_pos (by simp [Region.wanted, hy])]
          have d28 : v 28 = .string h := kd _ (Array.mem_of_getElem? (i := 0) rfl) rfl
          have t55 : ρ (.tmp 55) = v 28 := ks 28 55 (by decide) rfl
          rw [d28] at t55
          simp [execOp, go_sem, t55, hts, hhz, kc]
          exact ⟨hC, Below.refl _ _, rfl⟩
        · intro v W ρ y hC kc kf ks ki ky ku kd
          have dg : v 25 = .bool false := kd _ (Array.mem_of_getElem? (i := 2) rfl) rfl
          have hy := ky 25 52 false (by decide) rfl dg
          rw [if_pos (by simp [Region.wanted, hy])]
          have d27 : v 27 = .string (t.extract 4 10) := kd _ (Array.mem_of_getElem? (i := 0) rfl) rfl
          have t54 : ρ (.tmp 54) = v 27 := ks 27 54 (by decide) rfl
          rw [d27] at t54
          have d29 : v 29 = .string (h.extract 4 10) := kd _ (Array.mem_of_getElem? (i := 1) rfl) rfl
          have t56 : ρ (.tmp 56) = v 29 := ks 29 56 (by decide) rfl
          rw [d29] at t56
          simp [execOp, go_sem, t54, t56, he2]
          exact ⟨hC, Below.refl _ _, rfl⟩
        · refine stepW_of_u ⟨rfl, fun v W ρ hC kc kf ks ki kd => ?_⟩
          have d25 : v 25 = .bool false := kd _ (Array.mem_of_getElem? (i := 0) rfl) rfl
          have t52 : ρ (.tmp 52) = v 25 := ks 25 52 (by decide) rfl
          rw [d25] at t52
          have d30 : v 30 = .bool true := kd _ (Array.mem_of_getElem? (i := 1) rfl) rfl
          have t57 : ρ (.tmp 57) = v 30 := ks 30 57 (by decide) rfl
          rw [d30] at t57
          simp [execOp, go_sem, t52, t57, kc]
          exact ⟨hC, Below.refl _ _, rfl⟩
      case fin =>
        intro v W hC hall
        have hL0 : v 31 = .bool true := hall 31 (by decide)
        simp [upto, Act.put]
        rw [hL0]
        clear hall hL0
        have hE3 : okI t x = false := by rw [hOK.out, hrx, hp1, he1, he2]; rfl
        have e1 : Hid (innerC p = 3) := by rw [hCx.out, if_pos hE3]; rfl
        have e2 : Hid (innerP p = zeroPk) := by rw [hPx.out, if_neg (by rw [e1.out]; decide)]; rfl
        have hGW := blk_later hG5 hC
        have hLW := hidS (hL5.out.trans (hC.mono hL5.out.size))
        have hPW := HP.out.later hC
        clear hE3 hOK hCx hPx hG5 hL5 HP H5 hC c0 c1 c2 c3 c4 c5 c6 c7 c8 c9
        have g0 := blk_cell hGW
        have gf := blk_free hGW
        go_wp2
        refine bodyPost_ret (v := .agg #[.int .i64 0, .int .i64 0, .int .i64 0, .int .i64 0, .int .i64 0, .int .i64 0, .int .i64 0, .int .i64 0, .int .i64 0, .string ⟨#[]⟩, .int .i64 3]) (by simp [results, Tryd.results18, go_sem, g0]) rfl ⟨by rw [e1.out, e2.out]; rfl, ?_⟩
        iterate 11 (refine below_at ?_ (Nat.le_succ _))
        exact hLW.out
    · skip
      go_wp2_with fail
      refine grow_guarded 32 [.is (.agg #[.int .i64 x.src, .int .i64 x.dst, .int .i64 x.proto, .int .i64 x.a, .int .i64 x.b, .int .i64 x.kind, .int .i64 x.flags, .int .i64 x.seq, .int .i64 x.ack, .string x.body]), .is (.bool true), .is (.bool false), .is (.bool false), .is (.pointer (some ⟨w3.heap.size, 2, none⟩)), .is (.int .i64 x.proto), .is (.bool false), .is (.bool false), .is (undef), .is (undef), .is (undef), .is (undef), .is (undef), .is (undef), .is (undef), .is (undef), .is (.bool false), .is (.bool false), .is (.bool false), .is (.string t), .is (.string (t.extract 0 2)), .is (.string h), .is (.string (h.extract 0 2)), .is (.bool false), .is (.bool false), .is (.bool false), .is (.string t), .is (.string (t.extract 4 10)), .is (.string h), .is (.string (h.extract 4 10)), .is (.bool false), .is (.bool false)] rfl (by kernel_rfl) (by kernel_rfl) ?steps ?fin
      case steps =>
        refine ⟨?_, ?_, ?_, ?_, ?_, ?_, ?_, ?_, ?_, ?_, ?_, ?_, ?_, ?_, ?_, ?_, ?_, ?_, ?_, ?_, ?_, ?_, ?_, ?_, ?_, ?_, ?_, ?_, ?_, ?_, ?_, ?_, trivial⟩
        · refine stepW_of_u ⟨rfl, fun v W ρ hC kc kf ks ki kd => ?_⟩
          have t4 : ρ (.tmp 4) = .pointer (some ⟨w3.heap.size, 0, none⟩) := ki 4 (by decide)
          have hp := HP.out.later hC
          obtain ⟨c0, c1, c2, c3, c4, c5, c6, c7, c8, c9⟩ := hp
          simp [execOp, go_sem, t4, c0, c1, c2, c3, c4, c5, c6, c7, c8, c9]
          exact ⟨hC, Below.refl _ _, rfl⟩
        · refine stepW_of_u ⟨rfl, fun v W ρ hC kc kf ks ki kd => ?_⟩
          have d0 : v 0 = .agg #[.int .i64 x.src, .int .i64 x.dst, .int .i64 x.proto, .int .i64 x.a, .int .i64 x.b, .int .i64 x.kind, .int .i64 x.flags, .int .i64 x.seq, .int .i64 x.ack, .string x.body] := kd _ (Array.mem_of_getElem? (i := 0) rfl) rfl
          have t27 : ρ (.tmp 27) = v 0 := ks 0 27 (by decide) rfl
          rw [d0] at t27
          simp [execOp, go_sem, t27, kf]
          exact Calls.mono (specRight_is x _ hxb hrx) (fun e x h => ⟨_, h.1, hC.trans (h.2.mono hC.size), h.2, rfl⟩)
        · refine stepW_of_u ⟨rfl, fun v W ρ hC kc kf ks ki kd => ?_⟩
          have d1 : v 1 = .bool true := kd _ (Array.mem_of_getElem? (i := 0) rfl) rfl
          have t28 : ρ (.tmp 28) = v 1 := ks 1 28 (by decide) rfl
          rw [d1] at t28
          simp [execOp, go_sem, t28]
          exact ⟨hC, Below.refl _ _, rfl⟩
        · refine stepW_of_u ⟨rfl, fun v W ρ hC kc kf ks ki kd => ?_⟩
          have d2 : v 2 = .bool false := kd _ (Array.mem_of_getElem? (i := 0) rfl) rfl
          have t29 : ρ (.tmp 29) = v 2 := ks 2 29 (by decide) rfl
          rw [d2] at t29
          simp [execOp, go_sem, t29]
          exact ⟨hC, Below.refl _ _, rfl⟩
        · intro v W ρ y hC kc kf ks ki ky ku kd
          have dg : v 3 = .bool false := kd _ (Array.mem_of_getElem? (i := 0) rfl) rfl
          have hy := ky 3 30 false (by decide) rfl dg
          rw [if_pos (by simp [Region.wanted, hy])]
          have t4 : ρ (.tmp 4) = .pointer (some ⟨w3.heap.size, 0, none⟩) := ki 4 (by decide)
          simp [execOp, go_sem, t4]
          exact ⟨hC, Below.refl _ _, rfl⟩
        · intro v W ρ y hC kc kf ks ki ky ku kd
          have dg : v 3 = .bool false := kd _ (Array.mem_of_getElem? (i := 1) rfl) rfl
          have hy := ky 3 30 false (by decide) rfl dg
          rw [if_pos (by simp [Region.wanted, hy])]
          have d4 : v 4 = .pointer (some ⟨w3.heap.size, 2, none⟩) := kd _ (Array.mem_of_getElem? (i := 0) rfl) rfl
          have t31 : ρ (.tmp 31) = v 4 := ks 4 31 (by decide) rfl
          rw [d4] at t31
          have hp := HP.out.later hC
          obtain ⟨c0, c1, c2, c3, c4, c5, c6, c7, c8, c9⟩ := hp
          simp [execOp, go_sem, t31, c2]
          exact ⟨hC, Below.refl _ _, rfl⟩
        · intro v W ρ y hC kc kf ks ki ky ku kd
          have dg : v 3 = .bool false := kd _ (Array.mem_of_getElem? (i := 1) rfl) rfl
          have hy := ky 3 30 false (by decide) rfl dg
          rw [if_pos (by simp [Region.wanted, hy])]
          have d5 : v 5 = .int .i64 x.proto := kd _ (Array.mem_of_getElem? (i := 0) rfl) rfl
          have t32 : ρ (.tmp 32) = v 5 := ks 5 32 (by decide) rfl
          rw [d5] at t32
          simp [execOp, go_sem, t32, hp1, kc]
          exact ⟨hC, Below.refl _ _, rfl⟩
        · intro v W ρ y hC kc kf ks ki ky ku kd
          have dg : v 3 = .bool false := kd _ (Array.mem_of_getElem? (i := 1) rfl) rfl
          have hy := ky 3 30 false (by decide) rfl dg
          rw [if_pos (by simp [Region.wanted, hy])]
          have d6 : v 6 = .bool false := kd _ (Array.mem_of_getElem? (i := 0) rfl) rfl
          have t33 : ρ (.tmp 33) = v 6 := ks 6 33 (by decide) rfl
          rw [d6] at t33
          simp [execOp, go_sem, t33]
          exact ⟨hC, Below.refl _ _, rfl⟩
        · intro v W ρ y hC kc kf ks ki ky ku kd
          have dg : v 7 = .bool false := kd _ (Array.mem_of_getElem? (i := 0) rfl) rfl
          have hy := ky 7 34 false (by decide) rfl dg
          rw [if_neg (by simp [Region.wanted, hy])]
          exact ⟨Below.refl _ _, rfl⟩
        · intro v W ρ y hC kc kf ks ki ky ku kd
          have dg : v 7 = .bool false := kd _ (Array.mem_of_getElem? (i := 1) rfl) rfl
          have hy := ky 7 34 false (by decide) rfl dg
          rw [if_neg (by simp [Region.wanted, hy])]
          exact ⟨Below.refl _ _, rfl⟩
        · intro v W ρ y hC kc kf ks ki ky ku kd
          have dg : v 7 = .bool false := kd _ (Array.mem_of_getElem? (i := 1) rfl) rfl
          have hy := ky 7 34 false (by decide) rfl dg
          rw [if_neg (by simp [Region.wanted, hy])]
          exact ⟨Below.refl _ _, rfl⟩
        · intro v W ρ y hC kc kf ks ki ky ku kd
          have dg : v 7 = .bool false := kd _ (Array.mem_of_getElem? (i := 1) rfl) rfl
          have hy := ky 7 34 false (by decide) rfl dg
          rw [if_neg (by simp [Region.wanted, hy])]
          exact ⟨Below.refl _ _, rfl⟩
        · intro v W ρ y hC kc kf ks ki ky ku kd
          have dg : v 11 = undef := kd _ (Array.mem_of_getElem? (i := 0) rfl) rfl
          have hy := ku 11 38 (by decide) rfl dg
          rw [if_neg (by simp [Region.wanted, hy])]
          exact ⟨Below.refl _ _, rfl⟩
        · intro v W ρ y hC kc kf ks ki ky ku kd
          have dg : v 11 = undef := kd _ (Array.mem_of_getElem? (i := 1) rfl) rfl
          have hy := ku 11 38 (by decide) rfl dg
          rw [if_neg (by simp [Region.wanted, hy])]
          exact ⟨Below.refl _ _, rfl⟩
        · intro v W ρ y hC kc kf ks ki ky ku kd
          have dg : v 11 = undef := kd _ (Array.mem_of_getElem? (i := 1) rfl) rfl
          have hy := ku 11 38 (by decide) rfl dg
          rw [if_neg (by simp [Region.wanted, hy])]
          exact ⟨Below.refl _ _, rfl⟩
        · intro v W ρ y hC kc kf ks ki ky ku kd
          have dg : v 7 = .bool false := kd _ (Array.mem_of_getElem? (i := 2) rfl) rfl
          have hy := ky 7 34 false (by decide) rfl dg
          rw [if_neg (by simp [Region.wanted, hy])]
          exact ⟨Below.refl _ _, rfl⟩
        · intro v W ρ y hC kc kf ks ki ky ku kd
          have dg : v 3 = .bool false := kd _ (Array.mem_of_getElem? (i := 2) rfl) rfl
          have hy := ky 3 30 false (by decide) rfl dg
          rw [if_pos (by simp [Region.wanted, hy])]
          have d7 : v 7 = .bool false := kd _ (Array.mem_of_getElem? (i := 0) rfl) rfl
          have t34 : ρ (.tmp 34) = v 7 := ks 7 34 (by decide) rfl
          rw [d7] at t34
          have d15 : v 15 = undef := kd _ (Array.mem_of_getElem? (i := 1) rfl) rfl
          have t42 : ρ (.tmp 42) = v 15 := ks 15 42 (by decide) rfl
          rw [d15] at t42
          simp [execOp, go_sem, t34, t42, kc]
          exact ⟨hC, Below.refl _ _, rfl⟩
        · refine stepW_of_u ⟨rfl, fun v W ρ hC kc kf ks ki kd => ?_⟩
          have d3 : v 3 = .bool false := kd _ (Array.mem_of_getElem? (i := 0) rfl) rfl
          have t30 : ρ (.tmp 30) = v 3 := ks 3 30 (by decide) rfl
          rw [d3] at t30
          have d16 : v 16 = .bool false := kd _ (Array.mem_of_getElem? (i := 1) rfl) rfl
          have t43 : ρ (.tmp 43) = v 16 := ks 16 43 (by decide) rfl
          rw [d16] at t43
          simp [execOp, go_sem, t30, t43, kc]
          exact ⟨hC, Below.refl _ _, rfl⟩
        · refine stepW_of_u ⟨rfl, fun v W ρ hC kc kf ks ki kd => ?_⟩
          have d17 : v 17 = .bool false := kd _ (Array.mem_of_getElem? (i := 0) rfl) rfl
          have t44 : ρ (.tmp 44) = v 17 := ks 17 44 (by decide) rfl
          rw [d17] at t44
          simp [execOp, go_sem, t44]
          exact ⟨hC, Below.refl _ _, rfl⟩
        · intro v W ρ y hC kc kf ks ki ky ku kd
          have dg : v 18 = .bool false := kd _ (Array.mem_of_getElem? (i := 0) rfl) rfl
          have hy := ky 18 45 false (by decide) rfl dg
          rw [if_pos (by simp [Region.wanted, hy])]
          have t3 : ρ (.tmp 3) = .string t := ki 3 (by decide)
          simp [execOp, go_sem, t3]
          exact ⟨hC, Below.refl _ _, rfl⟩
        · intro v W ρ y hC kc kf ks ki ky ku kd
          have dg : v 18 = .bool false := kd _ (Array.mem_of_getElem? (i := 1) rfl) rfl
          have hy := ky 18 45 false (by decide) rfl dg
          rw [if_pos (by simp [Region.wanted, hy])]
          have d19 : v 19 = .string t := kd _ (Array.mem_of_getElem? (i := 0) rfl) rfl
          have t46 : ρ (.tmp 46) = v 19 := ks 19 46 (by decide) rfl
          rw [d19] at t46
          simp [execOp, go_sem, t46, hts, hhz, kc]
          exact ⟨hC, Below.refl _ _, rfl⟩
        · intro v W ρ y hC kc kf ks ki ky ku kd
          have dg : v 18 = .bool false := kd _ (Array.mem_of_getElem? (i := 0) rfl) rfl
          have hy := ky 18 45 false (by decide) rfl dg
          rw [if_pos (by simp [Region.wanted, hy])]
          have t5 : ρ (.tmp 5) = .string h := ki 5 (by decide)
          simp [execOp, go_sem, t5]
          exact ⟨hC, Below.refl _ _, rfl⟩
        · intro v W ρ y hC kc kf ks ki ky ku kd
          have dg : v 18 = .bool false := kd _ (Array.mem_of_getElem? (i := 1) rfl) rfl
          have hy := ky 18 45 false (by decide) rfl dg
          rw [if_pos (by simp [Region.wanted, hy])]
          have d21 : v 21 = .string h := kd _ (Array.mem_of_getElem? (i := 0) rfl) rfl
          have t48 : ρ (.tmp 48) = v 21 := ks 21 48 (by decide) rfl
          rw [d21] at t48
          simp [execOp, go_sem, t48, hts, hhz, kc]
          exact ⟨hC, Below.refl _ _, rfl⟩
        · intro v W ρ y hC kc kf ks ki ky ku kd
          have dg : v 18 = .bool false := kd _ (Array.mem_of_getElem? (i := 2) rfl) rfl
          have hy := ky 18 45 false (by decide) rfl dg
          rw [if_pos (by simp [Region.wanted, hy])]
          have d20 : v 20 = .string (t.extract 0 2) := kd _ (Array.mem_of_getElem? (i := 0) rfl) rfl
          have t47 : ρ (.tmp 47) = v 20 := ks 20 47 (by decide) rfl
          rw [d20] at t47
          have d22 : v 22 = .string (h.extract 0 2) := kd _ (Array.mem_of_getElem? (i := 1) rfl) rfl
          have t49 : ρ (.tmp 49) = v 22 := ks 22 49 (by decide) rfl
          rw [d22] at t49
          simp [execOp, go_sem, t47, t49, he1]
          exact ⟨hC, Below.refl _ _, rfl⟩
        · refine stepW_of_u ⟨rfl, fun v W ρ hC kc kf ks ki kd => ?_⟩
          have d18 : v 18 = .bool false := kd _ (Array.mem_of_getElem? (i := 0) rfl) rfl
          have t45 : ρ (.tmp 45) = v 18 := ks 18 45 (by decide) rfl
          rw [d18] at t45
          have d23 : v 23 = .bool false := kd _ (Array.mem_of_getElem? (i := 1) rfl) rfl
          have t50 : ρ (.tmp 50) = v 23 := ks 23 50 (by decide) rfl
          rw [d23] at t50
          simp [execOp, go_sem, t45, t50, kc]
          exact ⟨hC, Below.refl _ _, rfl⟩
        · refine stepW_of_u ⟨rfl, fun v W ρ hC kc kf ks ki kd => ?_⟩
          have d24 : v 24 = .bool false := kd _ (Array.mem_of_getElem? (i := 0) rfl) rfl
          have t51 : ρ (.tmp 51) = v 24 := ks 24 51 (by decide) rfl
          rw [d24] at t51
          simp [execOp, go_sem, t51]
          exact ⟨hC, Below.refl _ _, rfl⟩
        · intro v W ρ y hC kc kf ks ki ky ku kd
          have dg : v 25 = .bool false := kd _ (Array.mem_of_getElem? (i := 0) rfl) rfl
          have hy := ky 25 52 false (by decide) rfl dg
          rw [if_pos (by simp [Region.wanted, hy])]
          have t3 : ρ (.tmp 3) = .string t := ki 3 (by decide)
          simp [execOp, go_sem, t3]
          exact ⟨hC, Below.refl _ _, rfl⟩
        · intro v W ρ y hC kc kf ks ki ky ku kd
          have dg : v 25 = .bool false := kd _ (Array.mem_of_getElem? (i := 1) rfl) rfl
          have hy := ky 25 52 false (by decide) rfl dg
          rw [if_pos (by simp [Region.wanted, hy])]
          have d26 : v 26 = .string t := kd _ (Array.mem_of_getElem? (i := 0) rfl) rfl
          have t53 : ρ (.tmp 53) = v 26 := ks 26 53 (by decide) rfl
          rw [d26] at t53
          simp [execOp, go_sem, t53, hts, hhz, kc]
          exact ⟨hC, Below.refl _ _, rfl⟩
        · intro v W ρ y hC kc kf ks ki ky ku kd
          have dg : v 25 = .bool false := kd _ (Array.mem_of_getElem? (i := 0) rfl) rfl
          have hy := ky 25 52 false (by decide) rfl dg
          rw [if_pos (by simp [Region.wanted, hy])]
          have t5 : ρ (.tmp 5) = .string h := ki 5 (by decide)
          simp [execOp, go_sem, t5]
          exact ⟨hC, Below.refl _ _, rfl⟩
        · intro v W ρ y hC kc kf ks ki ky ku kd
          have dg : v 25 = .bool false := kd _ (Array.mem_of_getElem? (i := 1) rfl) rfl
          have hy := ky 25 52 false (by decide) rfl dg
          rw [if_pos (by simp [Region.wanted, hy])]
          have d28 : v 28 = .string h := kd _ (Array.mem_of_getElem? (i := 0) rfl) rfl
          have t55 : ρ (.tmp 55) = v 28 := ks 28 55 (by decide) rfl
          rw [d28] at t55
          simp [execOp, go_sem, t55, hts, hhz, kc]
          exact ⟨hC, Below.refl _ _, rfl⟩
        · intro v W ρ y hC kc kf ks ki ky ku kd
          have dg : v 25 = .bool false := kd _ (Array.mem_of_getElem? (i := 2) rfl) rfl
          have hy := ky 25 52 false (by decide) rfl dg
          rw [if_pos (by simp [Region.wanted, hy])]
          have d27 : v 27 = .string (t.extract 4 10) := kd _ (Array.mem_of_getElem? (i := 0) rfl) rfl
          have t54 : ρ (.tmp 54) = v 27 := ks 27 54 (by decide) rfl
          rw [d27] at t54
          have d29 : v 29 = .string (h.extract 4 10) := kd _ (Array.mem_of_getElem? (i := 1) rfl) rfl
          have t56 : ρ (.tmp 56) = v 29 := ks 29 56 (by decide) rfl
          rw [d29] at t56
          simp [execOp, go_sem, t54, t56, he2]
          exact ⟨hC, Below.refl _ _, rfl⟩
        · refine stepW_of_u ⟨rfl, fun v W ρ hC kc kf ks ki kd => ?_⟩
          have d25 : v 25 = .bool false := kd _ (Array.mem_of_getElem? (i := 0) rfl) rfl
          have t52 : ρ (.tmp 52) = v 25 := ks 25 52 (by decide) rfl
          rw [d25] at t52
          have d30 : v 30 = .bool false := kd _ (Array.mem_of_getElem? (i := 1) rfl) rfl
          have t57 : ρ (.tmp 57) = v 30 := ks 30 57 (by decide) rfl
          rw [d30] at t57
          simp [execOp, go_sem, t52, t57, kc]
          exact ⟨hC, Below.refl _ _, rfl⟩
      case fin =>
        intro v W hC hall
        have hL0 : v 31 = .bool false := hall 31 (by decide)
        simp [upto, Act.put]
        rw [hL0]
        clear hall hL0
        have hE3 : okI t x = true := by rw [hOK.out, hrx, hp1, he1, he2]; rfl
        have e1 : Hid (innerC p = 0) := by rw [hCx.out, if_neg (by rw [hE3]; decide)]; rfl
        have e2 : Hid (innerP p = x) := by rw [hPx.out, if_pos e1.out]; rfl
        have hGW := blk_later hG5 hC
        have hLW := hidS (hL5.out.trans (hC.mono hL5.out.size))
        have hPW := HP.out.later hC
        clear hE3 hOK hCx hPx hG5 hL5 HP H5 hC c0 c1 c2 c3 c4 c5 c6 c7 c8 c9
        have g0 := blk_cell hGW
        have gf := blk_free hGW
        obtain ⟨c0, c1, c2, c3, c4, c5, c6, c7, c8, c9⟩ := hPW
        go_wp2
        refine bodyPost_ret (v := .agg #[.int .i64 x.src, .int .i64 x.dst, .int .i64 x.proto, .int .i64 x.a, .int .i64 x.b, .int .i64 x.kind, .int .i64 x.flags, .int .i64 x.seq, .int .i64 x.ack, .string x.body, .int .i64 (0)]) (by simp [results, Tryd.results18, go_sem, g0]) rfl ⟨by rw [e1.out, e2.out], ?_⟩
        iterate 11 (refine below_at ?_ (Nat.le_succ _))
        exact hLW.out
  cases hk3 : (x.kind == 3)
  case true =>
    go_wp2_with fail
    refine grow_guarded 32 [.is (.agg #[.int .i64 x.src, .int .i64 x.dst, .int .i64 x.proto, .int .i64 x.a, .int .i64 x.b, .int .i64 x.kind, .int .i64 x.flags, .int .i64 x.seq, .int .i64 x.ack, .string x.body]), .is (.bool true), .is (.bool false), .is (.bool false), .is (.pointer (some ⟨w3.heap.size, 2, none⟩)), .is (.int .i64 x.proto), .is (.bool true), .is (.bool true), .is (.pointer (some ⟨w3.heap.size, 5, none⟩)), .is (.int .i64 x.kind), .is (.bool true), .is (.bool true), .is (undef), .is (undef), .is (undef), .is (.bool true), .is (.bool true), .is (.bool true), .is (.bool true), .is (undef), .is (undef), .is (undef), .is (undef), .is (undef), .is (.bool true), .is (.bool true), .is (undef), .is (undef), .is (undef), .is (undef), .is (undef), .is (.bool true)] rfl (by kernel_rfl) (by kernel_rfl) ?steps ?fin
    case steps =>
      refine ⟨?_, ?_, ?_, ?_, ?_, ?_, ?_, ?_, ?_, ?_, ?_, ?_, ?_, ?_, ?_, ?_, ?_, ?_, ?_, ?_, ?_, ?_, ?_, ?_, ?_, ?_, ?_, ?_, ?_, ?_, ?_, ?_, trivial⟩
      · refine stepW_of_u ⟨rfl, fun v W ρ hC kc kf ks ki kd => ?_⟩
        have t4 : ρ (.tmp 4) = .pointer (some ⟨w3.heap.size, 0, none⟩) := ki 4 (by decide)
        have hp := HP.out.later hC
        obtain ⟨c0, c1, c2, c3, c4, c5, c6, c7, c8, c9⟩ := hp
        simp [execOp, go_sem, t4, c0, c1, c2, c3, c4, c5, c6, c7, c8, c9]
        exact ⟨hC, Below.refl _ _, rfl⟩
      · refine stepW_of_u ⟨rfl, fun v W ρ hC kc kf ks ki kd => ?_⟩
        have d0 : v 0 = .agg #[.int .i64 x.src, .int .i64 x.dst, .int .i64 x.proto, .int .i64 x.a, .int .i64 x.b, .int .i64 x.kind, .int .i64 x.flags, .int .i64 x.seq, .int .i64 x.ack, .string x.body] := kd _ (Array.mem_of_getElem? (i := 0) rfl) rfl
        have t27 : ρ (.tmp 27) = v 0 := ks 0 27 (by decide) rfl
        rw [d0] at t27
        simp [execOp, go_sem, t27, kf]
        exact Calls.mono (specRight_is x _ hxb hrx) (fun e x h => ⟨_, h.1, hC.trans (h.2.mono hC.size), h.2, rfl⟩)
      · refine stepW_of_u ⟨rfl, fun v W ρ hC kc kf ks ki kd => ?_⟩
        have d1 : v 1 = .bool true := kd _ (Array.mem_of_getElem? (i := 0) rfl) rfl
        have t28 : ρ (.tmp 28) = v 1 := ks 1 28 (by decide) rfl
        rw [d1] at t28
        simp [execOp, go_sem, t28]
        exact ⟨hC, Below.refl _ _, rfl⟩
      · refine stepW_of_u ⟨rfl, fun v W ρ hC kc kf ks ki kd => ?_⟩
        have d2 : v 2 = .bool false := kd _ (Array.mem_of_getElem? (i := 0) rfl) rfl
        have t29 : ρ (.tmp 29) = v 2 := ks 2 29 (by decide) rfl
        rw [d2] at t29
        simp [execOp, go_sem, t29]
        exact ⟨hC, Below.refl _ _, rfl⟩
      · intro v W ρ y hC kc kf ks ki ky ku kd
        have dg : v 3 = .bool false := kd _ (Array.mem_of_getElem? (i := 0) rfl) rfl
        have hy := ky 3 30 false (by decide) rfl dg
        rw [if_pos (by simp [Region.wanted, hy])]
        have t4 : ρ (.tmp 4) = .pointer (some ⟨w3.heap.size, 0, none⟩) := ki 4 (by decide)
        simp [execOp, go_sem, t4]
        exact ⟨hC, Below.refl _ _, rfl⟩
      · intro v W ρ y hC kc kf ks ki ky ku kd
        have dg : v 3 = .bool false := kd _ (Array.mem_of_getElem? (i := 1) rfl) rfl
        have hy := ky 3 30 false (by decide) rfl dg
        rw [if_pos (by simp [Region.wanted, hy])]
        have d4 : v 4 = .pointer (some ⟨w3.heap.size, 2, none⟩) := kd _ (Array.mem_of_getElem? (i := 0) rfl) rfl
        have t31 : ρ (.tmp 31) = v 4 := ks 4 31 (by decide) rfl
        rw [d4] at t31
        have hp := HP.out.later hC
        obtain ⟨c0, c1, c2, c3, c4, c5, c6, c7, c8, c9⟩ := hp
        simp [execOp, go_sem, t31, c2]
        exact ⟨hC, Below.refl _ _, rfl⟩
      · intro v W ρ y hC kc kf ks ki ky ku kd
        have dg : v 3 = .bool false := kd _ (Array.mem_of_getElem? (i := 1) rfl) rfl
        have hy := ky 3 30 false (by decide) rfl dg
        rw [if_pos (by simp [Region.wanted, hy])]
        have d5 : v 5 = .int .i64 x.proto := kd _ (Array.mem_of_getElem? (i := 0) rfl) rfl
        have t32 : ρ (.tmp 32) = v 5 := ks 5 32 (by decide) rfl
        rw [d5] at t32
        simp [execOp, go_sem, t32, hp1, kc]
        exact ⟨hC, Below.refl _ _, rfl⟩
      · intro v W ρ y hC kc kf ks ki ky ku kd
        have dg : v 3 = .bool false := kd _ (Array.mem_of_getElem? (i := 1) rfl) rfl
        have hy := ky 3 30 false (by decide) rfl dg
        rw [if_pos (by simp [Region.wanted, hy])]
        have d6 : v 6 = .bool true := kd _ (Array.mem_of_getElem? (i := 0) rfl) rfl
        have t33 : ρ (.tmp 33) = v 6 := ks 6 33 (by decide) rfl
        rw [d6] at t33
        simp [execOp, go_sem, t33]
        exact ⟨hC, Below.refl _ _, rfl⟩
      · intro v W ρ y hC kc kf ks ki ky ku kd
        have dg : v 7 = .bool true := kd _ (Array.mem_of_getElem? (i := 0) rfl) rfl
        have hy := ky 7 34 true (by decide) rfl dg
        rw [if_pos (by simp [Region.wanted, hy])]
        have t4 : ρ (.tmp 4) = .pointer (some ⟨w3.heap.size, 0, none⟩) := ki 4 (by decide)
        simp [execOp, go_sem, t4]
        exact ⟨hC, Below.refl _ _, rfl⟩
      · intro v W ρ y hC kc kf ks ki ky ku kd
        have dg : v 7 = .bool true := kd _ (Array.mem_of_getElem? (i := 1) rfl) rfl
        have hy := ky 7 34 true (by decide) rfl dg
        rw [if_pos (by simp [Region.wanted, hy])]
        have d8 : v 8 = .pointer (some ⟨w3.heap.size, 5, none⟩) := kd _ (Array.mem_of_getElem? (i := 0) rfl) rfl
        have t35 : ρ (.tmp 35) = v 8 := ks 8 35 (by decide) rfl
        rw [d8] at t35
        have hp := HP.out.later hC
        obtain ⟨c0, c1, c2, c3, c4, c5, c6, c7, c8, c9⟩ := hp
        simp [execOp, go_sem, t35, c5]
        exact ⟨hC, Below.refl _ _, rfl⟩
      · intro v W ρ y hC kc kf ks ki ky ku kd
        have dg : v 7 = .bool true := kd _ (Array.mem_of_getElem? (i := 1) rfl) rfl
        have hy := ky 7 34 true (by decide) rfl dg
        rw [if_pos (by simp [Region.wanted, hy])]
        have d9 : v 9 = .int .i64 x.kind := kd _ (Array.mem_of_getElem? (i := 0) rfl) rfl
        have t36 : ρ (.tmp 36) = v 9 := ks 9 36 (by decide) rfl
        rw [d9] at t36
        simp [execOp, go_sem, t36, hk3, kc]
        exact ⟨hC, Below.refl _ _, rfl⟩
      · intro v W ρ y hC kc kf ks ki ky ku kd
        have dg : v 7 = .bool true := kd _ (Array.mem_of_getElem? (i := 1) rfl) rfl
        have hy := ky 7 34 true (by decide) rfl dg
        rw [if_pos (by simp [Region.wanted, hy])]
        have d10 : v 10 = .bool true := kd _ (Array.mem_of_getElem? (i := 0) rfl) rfl
        have t37 : ρ (.tmp 37) = v 10 := ks 10 37 (by decide) rfl
        rw [d10] at t37
        simp [execOp, go_sem, t37]
        exact ⟨hC, Below.refl _ _, rfl⟩
      · intro v W ρ y hC kc kf ks ki ky ku kd
        have dg : v 11 = .bool true := kd _ (Array.mem_of_getElem? (i := 0) rfl) rfl
        have hy := ky 11 38 true (by decide) rfl dg
        rw [if_neg (by simp [Region.wanted, hy])]
        exact ⟨Below.refl _ _, rfl⟩
      · intro v W ρ y hC kc kf ks ki ky ku kd
        have dg : v 11 = .bool true := kd _ (Array.mem_of_getElem? (i := 1) rfl) rfl
        have hy := ky 11 38 true (by decide) rfl dg
        rw [if_neg (by simp [Region.wanted, hy])]
        exact ⟨Below.refl _ _, rfl⟩
      · intro v W ρ y hC kc kf ks ki ky ku kd
        have dg : v 11 = .bool true := kd _ (Array.mem_of_getElem? (i := 1) rfl) rfl
        have hy := ky 11 38 true (by decide) rfl dg
        rw [if_neg (by simp [Region.wanted, hy])]
        exact ⟨Below.refl _ _, rfl⟩
      · intro v W ρ y hC kc kf ks ki ky ku kd
        have dg : v 7 = .bool true := kd _ (Array.mem_of_getElem? (i := 2) rfl) rfl
        have hy := ky 7 34 true (by decide) rfl dg
        rw [if_pos (by simp [Region.wanted, hy])]
        have d11 : v 11 = .bool true := kd _ (Array.mem_of_getElem? (i := 0) rfl) rfl
        have t38 : ρ (.tmp 38) = v 11 := ks 11 38 (by decide) rfl
        rw [d11] at t38
        have d14 : v 14 = undef := kd _ (Array.mem_of_getElem? (i := 1) rfl) rfl
        have t41 : ρ (.tmp 41) = v 14 := ks 14 41 (by decide) rfl
        rw [d14] at t41
        simp [execOp, go_sem, t38, t41, kc]
        exact ⟨hC, Below.refl _ _, rfl⟩
      · intro v W ρ y hC kc kf ks ki ky ku kd
        have dg : v 3 = .bool false := kd _ (Array.mem_of_getElem? (i := 2) rfl) rfl
        have hy := ky 3 30 false (by decide) rfl dg
        rw [if_pos (by simp [Region.wanted, hy])]
        have d7 : v 7 = .bool true := kd _ (Array.mem_of_getElem? (i := 0) rfl) rfl
        have t34 : ρ (.tmp 34) = v 7 := ks 7 34 (by decide) rfl
        rw [d7] at t34
        have d15 : v 15 = .bool true := kd _ (Array.mem_of_getElem? (i := 1) rfl) rfl
        have t42 : ρ (.tmp 42) = v 15 := ks 15 42 (by decide) rfl
        rw [d15] at t42
        simp [execOp, go_sem, t34, t42, kc]
        exact ⟨hC, Below.refl _ _, rfl⟩
      · refine stepW_of_u ⟨rfl, fun v W ρ hC kc kf ks ki kd => ?_⟩
        have d3 : v 3 = .bool false := kd _ (Array.mem_of_getElem? (i := 0) rfl) rfl
        have t30 : ρ (.tmp 30) = v 3 := ks 3 30 (by decide) rfl
        rw [d3] at t30
        have d16 : v 16 = .bool true := kd _ (Array.mem_of_getElem? (i := 1) rfl) rfl
        have t43 : ρ (.tmp 43) = v 16 := ks 16 43 (by decide) rfl
        rw [d16] at t43
        simp [execOp, go_sem, t30, t43, kc]
        exact ⟨hC, Below.refl _ _, rfl⟩
      · refine stepW_of_u ⟨rfl, fun v W ρ hC kc kf ks ki kd => ?_⟩
        have d17 : v 17 = .bool true := kd _ (Array.mem_of_getElem? (i := 0) rfl) rfl
        have t44 : ρ (.tmp 44) = v 17 := ks 17 44 (by decide) rfl
        rw [d17] at t44
        simp [execOp, go_sem, t44]
        exact ⟨hC, Below.refl _ _, rfl⟩
      · intro v W ρ y hC kc kf ks ki ky ku kd
        have dg : v 18 = .bool true := kd _ (Array.mem_of_getElem? (i := 0) rfl) rfl
        have hy := ky 18 45 true (by decide) rfl dg
        rw [if_neg (by simp [Region.wanted, hy])]
        exact ⟨Below.refl _ _, rfl⟩
      · intro v W ρ y hC kc kf ks ki ky ku kd
        have dg : v 18 = .bool true := kd _ (Array.mem_of_getElem? (i := 1) rfl) rfl
        have hy := ky 18 45 true (by decide) rfl dg
        rw [if_neg (by simp [Region.wanted, hy])]
        exact ⟨Below.refl _ _, rfl⟩
      · intro v W ρ y hC kc kf ks ki ky ku kd
        have dg : v 18 = .bool true := kd _ (Array.mem_of_getElem? (i := 0) rfl) rfl
        have hy := ky 18 45 true (by decide) rfl dg
        rw [if_neg (by simp [Region.wanted, hy])]
        exact ⟨Below.refl _ _, rfl⟩
      · intro v W ρ y hC kc kf ks ki ky ku kd
        have dg : v 18 = .bool true := kd _ (Array.mem_of_getElem? (i := 1) rfl) rfl
        have hy := ky 18 45 true (by decide) rfl dg
        rw [if_neg (by simp [Region.wanted, hy])]
        exact ⟨Below.refl _ _, rfl⟩
      · intro v W ρ y hC kc kf ks ki ky ku kd
        have dg : v 18 = .bool true := kd _ (Array.mem_of_getElem? (i := 2) rfl) rfl
        have hy := ky 18 45 true (by decide) rfl dg
        rw [if_neg (by simp [Region.wanted, hy])]
        exact ⟨Below.refl _ _, rfl⟩
      · refine stepW_of_u ⟨rfl, fun v W ρ hC kc kf ks ki kd => ?_⟩
        have d18 : v 18 = .bool true := kd _ (Array.mem_of_getElem? (i := 0) rfl) rfl
        have t45 : ρ (.tmp 45) = v 18 := ks 18 45 (by decide) rfl
        rw [d18] at t45
        have d23 : v 23 = undef := kd _ (Array.mem_of_getElem? (i := 1) rfl) rfl
        have t50 : ρ (.tmp 50) = v 23 := ks 23 50 (by decide) rfl
        rw [d23] at t50
        simp [execOp, go_sem, t45, t50, kc]
        exact ⟨hC, Below.refl _ _, rfl⟩
      · refine stepW_of_u ⟨rfl, fun v W ρ hC kc kf ks ki kd => ?_⟩
        have d24 : v 24 = .bool true := kd _ (Array.mem_of_getElem? (i := 0) rfl) rfl
        have t51 : ρ (.tmp 51) = v 24 := ks 24 51 (by decide) rfl
        rw [d24] at t51
        simp [execOp, go_sem, t51]
        exact ⟨hC, Below.refl _ _, rfl⟩
      · intro v W ρ y hC kc kf ks ki ky ku kd
        have dg : v 25 = .bool true := kd _ (Array.mem_of_getElem? (i := 0) rfl) rfl
        have hy := ky 25 52 true (by decide) rfl dg
        rw [if_neg (by simp [Region.wanted, hy])]
        exact ⟨Below.refl _ _, rfl⟩
      · intro v W ρ y hC kc kf ks ki ky ku kd
        have dg : v 25 = .bool true := kd _ (Array.mem_of_getElem? (i := 1) rfl) rfl
        have hy := ky 25 52 true (by decide) rfl dg
        rw [if_neg (by simp [Region.wanted, hy])]
        exact ⟨Below.refl _ _, rfl⟩
      · intro v W ρ y hC kc kf ks ki ky ku kd
        have dg : v 25 = .bool true := kd _ (Array.mem_of_getElem? (i := 0) rfl) rfl
        have hy := ky 25 52 true (by decide) rfl dg
        rw [if_neg (by simp [Region.wanted, hy])]
        exact ⟨Below.refl _ _, rfl⟩
      · intro v W ρ y hC kc kf ks ki ky ku kd
        have dg : v 25 = .bool true := kd _ (Array.mem_of_getElem? (i := 1) rfl) rfl
        have hy := ky 25 52 true (by decide) rfl dg
        rw [if_neg (by simp [Region.wanted, hy])]
        exact ⟨Below.refl _ _, rfl⟩
      · intro v W ρ y hC kc kf ks ki ky ku kd
        have dg : v 25 = .bool true := kd _ (Array.mem_of_getElem? (i := 2) rfl) rfl
        have hy := ky 25 52 true (by decide) rfl dg
        rw [if_neg (by simp [Region.wanted, hy])]
        exact ⟨Below.refl _ _, rfl⟩
      · refine stepW_of_u ⟨rfl, fun v W ρ hC kc kf ks ki kd => ?_⟩
        have d25 : v 25 = .bool true := kd _ (Array.mem_of_getElem? (i := 0) rfl) rfl
        have t52 : ρ (.tmp 52) = v 25 := ks 25 52 (by decide) rfl
        rw [d25] at t52
        have d30 : v 30 = undef := kd _ (Array.mem_of_getElem? (i := 1) rfl) rfl
        have t57 : ρ (.tmp 57) = v 30 := ks 30 57 (by decide) rfl
        rw [d30] at t57
        simp [execOp, go_sem, t52, t57, kc]
        exact ⟨hC, Below.refl _ _, rfl⟩
    case fin =>
      intro v W hC hall
      have hL0 : v 31 = .bool true := hall 31 (by decide)
      simp [upto, Act.put]
      rw [hL0]
      clear hall hL0
      have hE3 : okI t x = false := by rw [hOK.out, hrx, hp1, hk3]; rfl
      have e1 : Hid (innerC p = 3) := by rw [hCx.out, if_pos hE3]; rfl
      have e2 : Hid (innerP p = zeroPk) := by rw [hPx.out, if_neg (by rw [e1.out]; decide)]; rfl
      have hGW := blk_later hG5 hC
      have hLW := hidS (hL5.out.trans (hC.mono hL5.out.size))
      have hPW := HP.out.later hC
      clear hE3 hOK hCx hPx hG5 hL5 HP H5 hC c0 c1 c2 c3 c4 c5 c6 c7 c8 c9
      have g0 := blk_cell hGW
      have gf := blk_free hGW
      go_wp2
      refine bodyPost_ret (v := .agg #[.int .i64 0, .int .i64 0, .int .i64 0, .int .i64 0, .int .i64 0, .int .i64 0, .int .i64 0, .int .i64 0, .int .i64 0, .string ⟨#[]⟩, .int .i64 3]) (by simp [results, Tryd.results18, go_sem, g0]) rfl ⟨by rw [e1.out, e2.out]; rfl, ?_⟩
      iterate 11 (refine below_at ?_ (Nat.le_succ _))
      exact hLW.out
  cases hb1 : ((byteN t 21 : Int) == 0)
  · have hb0 : ((byteN t 21 : Int) != 0) = true := by rw [bne, hb1]; rfl
    go_wp2_with fail
    refine grow_guarded 32 [.is (.agg #[.int .i64 x.src, .int .i64 x.dst, .int .i64 x.proto, .int .i64 x.a, .int .i64 x.b, .int .i64 x.kind, .int .i64 x.flags, .int .i64 x.seq, .int .i64 x.ack, .string x.body]), .is (.bool true), .is (.bool false), .is (.bool false), .is (.pointer (some ⟨w3.heap.size, 2, none⟩)), .is (.int .i64 x.proto), .is (.bool true), .is (.bool true), .is (.pointer (some ⟨w3.heap.size, 5, none⟩)), .is (.int .i64 x.kind), .is (.bool false), .is (.bool false), .is (.string t), .is (.int .u8 (byteN t 21 : Int)), .is (.bool true), .is (.bool true), .is (.bool true), .is (.bool true), .is (.bool true), .is (undef), .is (undef), .is (undef), .is (undef), .is (undef), .is (.bool true), .is (.bool true), .is (undef), .is (undef), .is (undef), .is (undef), .is (undef), .is (.bool true)] rfl (by kernel_rfl) (by kernel_rfl) ?steps ?fin
    case steps =>
      refine ⟨?_, ?_, ?_, ?_, ?_, ?_, ?_, ?_, ?_, ?_, ?_, ?_, ?_, ?_, ?_, ?_, ?_, ?_, ?_, ?_, ?_, ?_, ?_, ?_, ?_, ?_, ?_, ?_, ?_, ?_, ?_, ?_, trivial⟩
      · refine stepW_of_u ⟨rfl, fun v W ρ hC kc kf ks ki kd => ?_⟩
        have t4 : ρ (.tmp 4) = .pointer (some ⟨w3.heap.size, 0, none⟩) := ki 4 (by decide)
        have hp := HP.out.later hC
        obtain ⟨c0, c1, c2, c3, c4, c5, c6, c7, c8, c9⟩ := hp
        simp [execOp, go_sem, t4, c0, c1, c2, c3, c4, c5, c6, c7, c8, c9]
        exact ⟨hC, Below.refl _ _, rfl⟩
      · refine stepW_of_u ⟨rfl, fun v W ρ hC kc kf ks ki kd => ?_⟩
        have d0 : v 0 = .agg #[.int .i64 x.src, .int .i64 x.dst, .int .i64 x.proto, .int .i64 x.a, .int .i64 x.b, .int .i64 x.kind, .int .i64 x.flags, .int .i64 x.seq, .int .i64 x.ack, .string x.body] := kd _ (Array.mem_of_getElem? (i := 0) rfl) rfl
        have t27 : ρ (.tmp 27) = v 0 := ks 0 27 (by decide) rfl
        rw [d0] at t27
        simp [execOp, go_sem, t27, kf]
        exact Calls.mono (specRight_is x _ hxb hrx) (fun e x h => ⟨_, h.1, hC.trans (h.2.mono hC.size), h.2, rfl⟩)
      · refine stepW_of_u ⟨rfl, fun v W ρ hC kc kf ks ki kd => ?_⟩
        have d1 : v 1 = .bool true := kd _ (Array.mem_of_getElem? (i := 0) rfl) rfl
        have t28 : ρ (.tmp 28) = v 1 := ks 1 28 (by decide) rfl
        rw [d1] at t28
        simp [execOp, go_sem, t28]
        exact ⟨hC, Below.refl _ _, rfl⟩
      · refine stepW_of_u ⟨rfl, fun v W ρ hC kc kf ks ki kd => ?_⟩
        have d2 : v 2 = .bool false := kd _ (Array.mem_of_getElem? (i := 0) rfl) rfl
        have t29 : ρ (.tmp 29) = v 2 := ks 2 29 (by decide) rfl
        rw [d2] at t29
        simp [execOp, go_sem, t29]
        exact ⟨hC, Below.refl _ _, rfl⟩
      · intro v W ρ y hC kc kf ks ki ky ku kd
        have dg : v 3 = .bool false := kd _ (Array.mem_of_getElem? (i := 0) rfl) rfl
        have hy := ky 3 30 false (by decide) rfl dg
        rw [if_pos (by simp [Region.wanted, hy])]
        have t4 : ρ (.tmp 4) = .pointer (some ⟨w3.heap.size, 0, none⟩) := ki 4 (by decide)
        simp [execOp, go_sem, t4]
        exact ⟨hC, Below.refl _ _, rfl⟩
      · intro v W ρ y hC kc kf ks ki ky ku kd
        have dg : v 3 = .bool false := kd _ (Array.mem_of_getElem? (i := 1) rfl) rfl
        have hy := ky 3 30 false (by decide) rfl dg
        rw [if_pos (by simp [Region.wanted, hy])]
        have d4 : v 4 = .pointer (some ⟨w3.heap.size, 2, none⟩) := kd _ (Array.mem_of_getElem? (i := 0) rfl) rfl
        have t31 : ρ (.tmp 31) = v 4 := ks 4 31 (by decide) rfl
        rw [d4] at t31
        have hp := HP.out.later hC
        obtain ⟨c0, c1, c2, c3, c4, c5, c6, c7, c8, c9⟩ := hp
        simp [execOp, go_sem, t31, c2]
        exact ⟨hC, Below.refl _ _, rfl⟩
      · intro v W ρ y hC kc kf ks ki ky ku kd
        have dg : v 3 = .bool false := kd _ (Array.mem_of_getElem? (i := 1) rfl) rfl
        have hy := ky 3 30 false (by decide) rfl dg
        rw [if_pos (by simp [Region.wanted, hy])]
        have d5 : v 5 = .int .i64 x.proto := kd _ (Array.mem_of_getElem? (i := 0) rfl) rfl
        have t32 : ρ (.tmp 32) = v 5 := ks 5 32 (by decide) rfl
        rw [d5] at t32
        simp [execOp, go_sem, t32, hp1, kc]
        exact ⟨hC, Below.refl _ _, rfl⟩
      · intro v W ρ y hC kc kf ks ki ky ku kd
        have dg : v 3 = .bool false := kd _ (Array.mem_of_getElem? (i := 1) rfl) rfl
        have hy := ky 3 30 false (by decide) rfl dg
        rw [if_pos (by simp [Region.wanted, hy])]
        have d6 : v 6 = .bool true := kd _ (Array.mem_of_getElem? (i := 0) rfl) rfl
        have t33 : ρ (.tmp 33) = v 6 := ks 6 33 (by decide) rfl
        rw [d6] at t33
        simp [execOp, go_sem, t33]
        exact ⟨hC, Below.refl _ _, rfl⟩
      · intro v W ρ y hC kc kf ks ki ky ku kd
        have dg : v 7 = .bool true := kd _ (Array.mem_of_getElem? (i := 0) rfl) rfl
        have hy := ky 7 34 true (by decide) rfl dg
        rw [if_pos (by simp [Region.wanted, hy])]
        have t4 : ρ (.tmp 4) = .pointer (some ⟨w3.heap.size, 0, none⟩) := ki 4 (by decide)
        simp [execOp, go_sem, t4]
        exact ⟨hC, Below.refl _ _, rfl⟩
      · intro v W ρ y hC kc kf ks ki ky ku kd
        have dg : v 7 = .bool true := kd _ (Array.mem_of_getElem? (i := 1) rfl) rfl
        have hy := ky 7 34 true (by decide) rfl dg
        rw [if_pos (by simp [Region.wanted, hy])]
        have d8 : v 8 = .pointer (some ⟨w3.heap.size, 5, none⟩) := kd _ (Array.mem_of_getElem? (i := 0) rfl) rfl
        have t35 : ρ (.tmp 35) = v 8 := ks 8 35 (by decide) rfl
        rw [d8] at t35
        have hp := HP.out.later hC
        obtain ⟨c0, c1, c2, c3, c4, c5, c6, c7, c8, c9⟩ := hp
        simp [execOp, go_sem, t35, c5]
        exact ⟨hC, Below.refl _ _, rfl⟩
      · intro v W ρ y hC kc kf ks ki ky ku kd
        have dg : v 7 = .bool true := kd _ (Array.mem_of_getElem? (i := 1) rfl) rfl
        have hy := ky 7 34 true (by decide) rfl dg
        rw [if_pos (by simp [Region.wanted, hy])]
        have d9 : v 9 = .int .i64 x.kind := kd _ (Array.mem_of_getElem? (i := 0) rfl) rfl
        have t36 : ρ (.tmp 36) = v 9 := ks 9 36 (by decide) rfl
        rw [d9] at t36
        simp [execOp, go_sem, t36, hk3, kc]
        exact ⟨hC, Below.refl _ _, rfl⟩
      · intro v W ρ y hC kc kf ks ki ky ku kd
        have dg : v 7 = .bool true := kd _ (Array.mem_of_getElem? (i := 1) rfl) rfl
        have hy := ky 7 34 true (by decide) rfl dg
        rw [if_pos (by simp [Region.wanted, hy])]
        have d10 : v 10 = .bool false := kd _ (Array.mem_of_getElem? (i := 0) rfl) rfl
        have t37 : ρ (.tmp 37) = v 10 := ks 10 37 (by decide) rfl
        rw [d10] at t37
        simp [execOp, go_sem, t37]
        exact ⟨hC, Below.refl _ _, rfl⟩
      · intro v W ρ y hC kc kf ks ki ky ku kd
        have dg : v 11 = .bool false := kd _ (Array.mem_of_getElem? (i := 0) rfl) rfl
        have hy := ky 11 38 false (by decide) rfl dg
        rw [if_pos (by simp [Region.wanted, hy])]
        have t3 : ρ (.tmp 3) = .string t := ki 3 (by decide)
        simp [execOp, go_sem, t3]
        exact ⟨hC, Below.refl _ _, rfl⟩
      · intro v W ρ y hC kc kf ks ki ky ku kd
        have dg : v 11 = .bool false := kd _ (Array.mem_of_getElem? (i := 1) rfl) rfl
        have hy := ky 11 38 false (by decide) rfl dg
        rw [if_pos (by simp [Region.wanted, hy])]
        have d12 : v 12 = .string t := kd _ (Array.mem_of_getElem? (i := 0) rfl) rfl
        have t39 : ρ (.tmp 39) = v 12 := ks 12 39 (by decide) rfl
        rw [d12] at t39
        simp [execOp, go_sem, t39, h21, h21i, hb21, kc]
        exact ⟨hC, Below.refl _ _, rfl⟩
      · intro v W ρ y hC kc kf ks ki ky ku kd
        have dg : v 11 = .bool false := kd _ (Array.mem_of_getElem? (i := 1) rfl) rfl
        have hy := ky 11 38 false (by decide) rfl dg
        rw [if_pos (by simp [Region.wanted, hy])]
        have d13 : v 13 = .int .u8 (byteN t 21 : Int) := kd _ (Array.mem_of_getElem? (i := 0) rfl) rfl
        have t40 : ρ (.tmp 40) = v 13 := ks 13 40 (by decide) rfl
        rw [d13] at t40
        simp [execOp, go_sem, t40, hb0, kc]
        exact ⟨hC, Below.refl _ _, rfl⟩
      · intro v W ρ y hC kc kf ks ki ky ku kd
        have dg : v 7 = .bool true := kd _ (Array.mem_of_getElem? (i := 2) rfl) rfl
        have hy := ky 7 34 true (by decide) rfl dg
        rw [if_pos (by simp [Region.wanted, hy])]
        have d11 : v 11 = .bool false := kd _ (Array.mem_of_getElem? (i := 0) rfl) rfl
        have t38 : ρ (.tmp 38) = v 11 := ks 11 38 (by decide) rfl
        rw [d11] at t38
        have d14 : v 14 = .bool true := kd _ (Array.mem_of_getElem? (i := 1) rfl) rfl
        have t41 : ρ (.tmp 41) = v 14 := ks 14 41 (by decide) rfl
        rw [d14] at t41
        simp [execOp, go_sem, t38, t41, kc]
        exact ⟨hC, Below.refl _ _, rfl⟩
      · intro v W ρ y hC kc kf ks ki ky ku kd
        have dg : v 3 = .bool false := kd _ (Array.mem_of_getElem? (i := 2) rfl) rfl
        have hy := ky 3 30 false (by decide) rfl dg
        rw [if_pos (by simp [Region.wanted, hy])]
        have d7 : v 7 = .bool true := kd _ (Array.mem_of_getElem? (i := 0) rfl) rfl
        have t34 : ρ (.tmp 34) = v 7 := ks 7 34 (by decide) rfl
        rw [d7] at t34
        have d15 : v 15 = .bool true := kd _ (Array.mem_of_getElem? (i := 1) rfl) rfl
        have t42 : ρ (.tmp 42) = v 15 := ks 15 42 (by decide) rfl
        rw [d15] at t42
        simp [execOp, go_sem, t34, t42, kc]
        exact ⟨hC, Below.refl _ _, rfl⟩
      · refine stepW_of_u ⟨rfl, fun v W ρ hC kc kf ks ki kd => ?_⟩
        have d3 : v 3 = .bool false := kd _ (Array.mem_of_getElem? (i := 0) rfl) rfl
        have t30 : ρ (.tmp 30) = v 3 := ks 3 30 (by decide) rfl
        rw [d3] at t30
        have d16 : v 16 = .bool true := kd _ (Array.mem_of_getElem? (i := 1) rfl) rfl
        have t43 : ρ (.tmp 43) = v 16 := ks 16 43 (by decide) rfl
        rw [d16] at t43
        simp [execOp, go_sem, t30, t43, kc]
        exact ⟨hC, Below.refl _ _, rfl⟩
      · refine stepW_of_u ⟨rfl, fun v W ρ hC kc kf ks ki kd => ?_⟩
        have d17 : v 17 = .bool true := kd _ (Array.mem_of_getElem? (i := 0) rfl) rfl
        have t44 : ρ (.tmp 44) = v 17 := ks 17 44 (by decide) rfl
        rw [d17] at t44
        simp [execOp, go_sem, t44]
        exact ⟨hC, Below.refl _ _, rfl⟩
      · intro v W ρ y hC kc kf ks ki ky ku kd
        have dg : v 18 = .bool true := kd _ (Array.mem_of_getElem? (i := 0) rfl) rfl
        have hy := ky 18 45 true (by decide) rfl dg
        rw [if_neg (by simp [Region.wanted, hy])]
        exact ⟨Below.refl _ _, rfl⟩
      · intro v W ρ y hC kc kf ks ki ky ku kd
        have dg : v 18 = .bool true := kd _ (Array.mem_of_getElem? (i := 1) rfl) rfl
        have hy := ky 18 45 true (by decide) rfl dg
        rw [if_neg (by simp [Region.wanted, hy])]
        exact ⟨Below.refl _ _, rfl⟩
      · intro v W ρ y hC kc kf ks ki ky ku kd
        have dg : v 18 = .bool true := kd _ (Array.mem_of_getElem? (i := 0) rfl) rfl
        have hy := ky 18 45 true (by decide) rfl dg
        rw [if_neg (by simp [Region.wanted, hy])]
        exact ⟨Below.refl _ _, rfl⟩
      · intro v W ρ y hC kc kf ks ki ky ku kd
        have dg : v 18 = .bool true := kd _ (Array.mem_of_getElem? (i := 1) rfl) rfl
        have hy := ky 18 45 true (by decide) rfl dg
        rw [if_neg (by simp [Region.wanted, hy])]
        exact ⟨Below.refl _ _, rfl⟩
      · intro v W ρ y hC kc kf ks ki ky ku kd
        have dg : v 18 = .bool true := kd _ (Array.mem_of_getElem? (i := 2) rfl) rfl
        have hy := ky 18 45 true (by decide) rfl dg
        rw [if_neg (by simp [Region.wanted, hy])]
        exact ⟨Below.refl _ _, rfl⟩
      · refine stepW_of_u ⟨rfl, fun v W ρ hC kc kf ks ki kd => ?_⟩
        have d18 : v 18 = .bool true := kd _ (Array.mem_of_getElem? (i := 0) rfl) rfl
        have t45 : ρ (.tmp 45) = v 18 := ks 18 45 (by decide) rfl
        rw [d18] at t45
        have d23 : v 23 = undef := kd _ (Array.mem_of_getElem? (i := 1) rfl) rfl
        have t50 : ρ (.tmp 50) = v 23 := ks 23 50 (by decide) rfl
        rw [d23] at t50
        simp [execOp, go_sem, t45, t50, kc]
        exact ⟨hC, Below.refl _ _, rfl⟩
      · refine stepW_of_u ⟨rfl, fun v W ρ hC kc kf ks ki kd => ?_⟩
        have d24 : v 24 = .bool true := kd _ (Array.mem_of_getElem? (i := 0) rfl) rfl
        have t51 : ρ (.tmp 51) = v 24 := ks 24 51 (by decide) rfl
        rw [d24] at t51
        simp [execOp, go_sem, t51]
        exact ⟨hC, Below.refl _ _, rfl⟩
      · intro v W ρ y hC kc kf ks ki ky ku kd
        have dg : v 25 = .bool true := kd _ (Array.mem_of_getElem? (i := 0) rfl) rfl
        have hy := ky 25 52 true (by decide) rfl dg
        rw [if_neg (by simp [Region.wanted, hy])]
        exact ⟨Below.refl _ _, rfl⟩
      · intro v W ρ y hC kc kf ks ki ky ku kd
        have dg : v 25 = .bool true := kd _ (Array.mem_of_getElem? (i := 1) rfl) rfl
        have hy := ky 25 52 true (by decide) rfl dg
        rw [if_neg (by simp [Region.wanted, hy])]
        exact ⟨Below.refl _ _, rfl⟩
      · intro v W ρ y hC kc kf ks ki ky ku kd
        have dg : v 25 = .bool true := kd _ (Array.mem_of_getElem? (i := 0) rfl) rfl
        have hy := ky 25 52 true (by decide) rfl dg
        rw [if_neg (by simp [Region.wanted, hy])]
        exact ⟨Below.refl _ _, rfl⟩
      · intro v W ρ y hC kc kf ks ki ky ku kd
        have dg : v 25 = .bool true := kd _ (Array.mem_of_getElem? (i := 1) rfl) rfl
        have hy := ky 25 52 true (by decide) rfl dg
        rw [if_neg (by simp [Region.wanted, hy])]
        exact ⟨Below.refl _ _, rfl⟩
      · intro v W ρ y hC kc kf ks ki ky ku kd
        have dg : v 25 = .bool true := kd _ (Array.mem_of_getElem? (i := 2) rfl) rfl
        have hy := ky 25 52 true (by decide) rfl dg
        rw [if_neg (by simp [Region.wanted, hy])]
        exact ⟨Below.refl _ _, rfl⟩
      · refine stepW_of_u ⟨rfl, fun v W ρ hC kc kf ks ki kd => ?_⟩
        have d25 : v 25 = .bool true := kd _ (Array.mem_of_getElem? (i := 0) rfl) rfl
        have t52 : ρ (.tmp 52) = v 25 := ks 25 52 (by decide) rfl
        rw [d25] at t52
        have d30 : v 30 = undef := kd _ (Array.mem_of_getElem? (i := 1) rfl) rfl
        have t57 : ρ (.tmp 57) = v 30 := ks 30 57 (by decide) rfl
        rw [d30] at t57
        simp [execOp, go_sem, t52, t57, kc]
        exact ⟨hC, Below.refl _ _, rfl⟩
    case fin =>
      intro v W hC hall
      have hL0 : v 31 = .bool true := hall 31 (by decide)
      simp [upto, Act.put]
      rw [hL0]
      clear hall hL0
      have hE3 : okI t x = false := by rw [hOK.out, hrx, hp1, hk3, hb1]; rfl
      have e1 : Hid (innerC p = 3) := by rw [hCx.out, if_pos hE3]; rfl
      have e2 : Hid (innerP p = zeroPk) := by rw [hPx.out, if_neg (by rw [e1.out]; decide)]; rfl
      have hGW := blk_later hG5 hC
      have hLW := hidS (hL5.out.trans (hC.mono hL5.out.size))
      have hPW := HP.out.later hC
      clear hE3 hOK hCx hPx hG5 hL5 HP H5 hC c0 c1 c2 c3 c4 c5 c6 c7 c8 c9
      have g0 := blk_cell hGW
      have gf := blk_free hGW
      go_wp2
      refine bodyPost_ret (v := .agg #[.int .i64 0, .int .i64 0, .int .i64 0, .int .i64 0, .int .i64 0, .int .i64 0, .int .i64 0, .int .i64 0, .int .i64 0, .string ⟨#[]⟩, .int .i64 3]) (by simp [results, Tryd.results18, go_sem, g0]) rfl ⟨by rw [e1.out, e2.out]; rfl, ?_⟩
      iterate 11 (refine below_at ?_ (Nat.le_succ _))
      exact hLW.out
  · have hb0 : ((byteN t 21 : Int) != 0) = false := by rw [bne, hb1]; rfl
    cases he1 : ((t.extract 0 2).toList == (h.extract 0 2).toList)
    · skip
      go_wp2_with fail
      refine grow_guarded 32 [.is (.agg #[.int .i64 x.src, .int .i64 x.dst, .int .i64 x.proto, .int .i64 x.a, .int .i64 x.b, .int .i64 x.kind, .int .i64 x.flags, .int .i64 x.seq, .int .i64 x.ack, .string x.body]), .is (.bool true), .is (.bool false), .is (.bool false), .is (.pointer (some ⟨w3.heap.size, 2, none⟩)), .is (.int .i64 x.proto), .is (.bool true), .is (.bool true), .is (.pointer (some ⟨w3.heap.size, 5, none⟩)), .is (.int .i64 x.kind), .is (.bool false), .is (.bool false), .is (.string t), .is (.int .u8 (byteN t 21 : Int)), .is (.bool false), .is (.bool false), .is (.bool false), .is (.bool false), .is (.bool false), .is (.string t), .is (.string (t.extract 0 2)), .is (.string h), .is (.string (h.extract 0 2)), .is (.bool true), .is (.bool true), .is (.bool true), .is (undef), .is (undef), .is (undef), .is (undef), .is (undef), .is (.bool true)] rfl (by kernel_rfl) (by kernel_rfl) ?steps ?fin
      case steps =>
        refine ⟨?_, ?_, ?_, ?_, ?_, ?_, ?_, ?_, ?_, ?_, ?_, ?_, ?_, ?_, ?_, ?_, ?_, ?_, ?_, ?_, ?_, ?_, ?_, ?_, ?_, ?_, ?_, ?_, ?_, ?_, ?_, ?_, trivial⟩
        · refine stepW_of_u ⟨rfl, fun v W ρ hC kc kf ks ki kd => ?_⟩
          have t4 : ρ (.tmp 4) = .pointer (some ⟨w3.heap.size, 0, none⟩) := ki 4 (by decide)
          have hp := HP.out.later hC
          obtain ⟨c0, c1, c2, c3, c4, c5, c6, c7, c8, c9⟩ := hp
          simp [execOp, go_sem, t4, c0, c1, c2, c3, c4, c5, c6, c7, c8, c9]
          exact ⟨hC, Below.refl _ _, rfl⟩
        · refine stepW_of_u ⟨rfl, fun v W ρ hC kc kf ks ki kd => ?_⟩
          have d0 : v 0 = .agg #[.int .i64 x.src, .int .i64 x.dst, .int .i64 x.proto, .int .i64 x.a, .int .i64 x.b, .int .i64 x.kind, .int .i64 x.flags, .int .i64 x.seq, .int .i64 x.ack, .string x.body] := kd _ (Array.mem_of_getElem? (i := 0) rfl) rfl
          have t27 : ρ (.tmp 27) = v 0 := ks 0 27 (by decide) rfl
          rw [d0] at t27
          simp [execOp, go_sem, t27, kf]
          exact Calls.mono (specRight_is x _ hxb hrx) (fun e x h => ⟨_, h.1, hC.trans (h.2.mono hC.size), h.2, rfl⟩)
        · refine stepW_of_u ⟨rfl, fun v W ρ hC kc kf ks ki kd => ?_⟩
          have d1 : v 1 = .bool true := kd _ (Array.mem_of_getElem? (i := 0) rfl) rfl
          have t28 : ρ (.tmp 28) = v 1 := ks 1 28 (by decide) rfl
          rw [d1] at t28
          simp [execOp, go_sem, t28]
          exact ⟨hC, Below.refl _ _, rfl⟩
        · refine stepW_of_u ⟨rfl, fun v W ρ hC kc kf ks ki kd => ?_⟩
          have d2 : v 2 = .bool false := kd _ (Array.mem_of_getElem? (i := 0) rfl) rfl
          have t29 : ρ (.tmp 29) = v 2 := ks 2 29 (by decide) rfl
          rw [d2] at t29
          simp [execOp, go_sem, t29]
          exact ⟨hC, Below.refl _ _, rfl⟩
        · intro v W ρ y hC kc kf ks ki ky ku kd
          have dg : v 3 = .bool false := kd _ (Array.mem_of_getElem? (i := 0) rfl) rfl
          have hy := ky 3 30 false (by decide) rfl dg
          rw [if_pos (by simp [Region.wanted, hy])]
          have t4 : ρ (.tmp 4) = .pointer (some ⟨w3.heap.size, 0, none⟩) := ki 4 (by decide)
          simp [execOp, go_sem, t4]
          exact ⟨hC, Below.refl _ _, rfl⟩
        · intro v W ρ y hC kc kf ks ki ky ku kd
          have dg : v 3 = .bool false := kd _ (Array.mem_of_getElem? (i := 1) rfl) rfl
          have hy := ky 3 30 false (by decide) rfl dg
          rw [if_pos (by simp [Region.wanted, hy])]
          have d4 : v 4 = .pointer (some ⟨w3.heap.size, 2, none⟩) := kd _ (Array.mem_of_getElem? (i := 0) rfl) rfl
          have t31 : ρ (.tmp 31) = v 4 := ks 4 31 (by decide) rfl
          rw [d4] at t31
          have hp := HP.out.later hC
          obtain ⟨c0, c1, c2, c3, c4, c5, c6, c7, c8, c9⟩ := hp
          simp [execOp, go_sem, t31, c2]
          exact ⟨hC, Below.refl _ _, rfl⟩
        · intro v W ρ y hC kc kf ks ki ky ku kd
          have dg : v 3 = .bool false := kd _ (Array.mem_of_getElem? (i := 1) rfl) rfl
          have hy := ky 3 30 false (by decide) rfl dg
          rw [if_pos (by simp [Region.wanted, hy])]
          have d5 : v 5 = .int .i64 x.proto := kd _ (Array.mem_of_getElem? (i := 0) rfl) rfl
          have t32 : ρ (.tmp 32) = v 5 := ks 5 32 (by decide) rfl
          rw [d5] at t32
          simp [execOp, go_sem, t32, hp1, kc]
          exact ⟨hC, Below.refl _ _, rfl⟩
        · intro v W ρ y hC kc kf ks ki ky ku kd
          have dg : v 3 = .bool false := kd _ (Array.mem_of_getElem? (i := 1) rfl) rfl
          have hy := ky 3 30 false (by decide) rfl dg
          rw [if_pos (by simp [Region.wanted, hy])]
          have d6 : v 6 = .bool true := kd _ (Array.mem_of_getElem? (i := 0) rfl) rfl
          have t33 : ρ (.tmp 33) = v 6 := ks 6 33 (by decide) rfl
          rw [d6] at t33
          simp [execOp, go_sem, t33]
          exact ⟨hC, Below.refl _ _, rfl⟩
        · intro v W ρ y hC kc kf ks ki ky ku kd
          have dg : v 7 = .bool true := kd _ (Array.mem_of_getElem? (i := 0) rfl) rfl
          have hy := ky 7 34 true (by decide) rfl dg
          rw [if_pos (by simp [Region.wanted, hy])]
          have t4 : ρ (.tmp 4) = .pointer (some ⟨w3.heap.size, 0, none⟩) := ki 4 (by decide)
          simp [execOp, go_sem, t4]
          exact ⟨hC, Below.refl _ _, rfl⟩
        · intro v W ρ y hC kc kf ks ki ky ku kd
          have dg : v 7 = .bool true := kd _ (Array.mem_of_getElem? (i := 1) rfl) rfl
          have hy := ky 7 34 true (by decide) rfl dg
          rw [if_pos (by simp [Region.wanted, hy])]
          have d8 : v 8 = .pointer (some ⟨w3.heap.size, 5, none⟩) := kd _ (Array.mem_of_getElem? (i := 0) rfl) rfl
          have t35 : ρ (.tmp 35) = v 8 := ks 8 35 (by decide) rfl
          rw [d8] at t35
          have hp := HP.out.later hC
          obtain ⟨c0, c1, c2, c3, c4, c5, c6, c7, c8, c9⟩ := hp
          simp [execOp, go_sem, t35, c5]
          exact ⟨hC, Below.refl _ _, rfl⟩
        · intro v W ρ y hC kc kf ks ki ky ku kd
          have dg : v 7 = .bool true := kd _ (Array.mem_of_getElem? (i := 1) rfl) rfl
          have hy := ky 7 34 true (by decide) rfl dg
          rw [if_pos (by simp [Region.wanted, hy])]
          have d9 : v 9 = .int .i64 x.kind := kd _ (Array.mem_of_getElem? (i := 0) rfl) rfl
          have t36 : ρ (.tmp 36) = v 9 := ks 9 36 (by decide) rfl
          rw [d9] at t36
          simp [execOp, go_sem, t36, hk3, kc]
          exact ⟨hC, Below.refl _ _, rfl⟩
        · intro v W ρ y hC kc kf ks ki ky ku kd
          have dg : v 7 = .bool true := kd _ (Array.mem_of_getElem? (i := 1) rfl) rfl
          have hy := ky 7 34 true (by decide) rfl dg
          rw [if_pos (by simp [Region.wanted, hy])]
          have d10 : v 10 = .bool false := kd _ (Array.mem_of_getElem? (i := 0) rfl) rfl
          have t37 : ρ (.tmp 37) = v 10 := ks 10 37 (by decide) rfl
          rw [d10] at t37
          simp [execOp, go_sem, t37]
          exact ⟨hC, Below.refl _ _, rfl⟩
        · intro v W ρ y hC kc kf ks ki ky ku kd
          have dg : v 11 = .bool false := kd _ (Array.mem_of_getElem? (i := 0) rfl) rfl
          have hy := ky 11 38 false (by decide) rfl dg
          rw [if_pos (by simp [Region.wanted, hy])]
          have t3 : ρ (.tmp 3) = .string t := ki 3 (by decide)
          simp [execOp, go_sem, t3]
          exact ⟨hC, Below.refl _ _, rfl⟩
        · intro v W ρ y hC kc kf ks ki ky ku kd
          have dg : v 11 = .bool false := kd _ (Array.mem_of_getElem? (i := 1) rfl) rfl
          have hy := ky 11 38 false (by decide) rfl dg
          rw [if_pos (by simp [Region.wanted, hy])]
          have d12 : v 12 = .string t := kd _ (Array.mem_of_getElem? (i := 0) rfl) rfl
          have t39 : ρ (.tmp 39) = v 12 := ks 12 39 (by decide) rfl
          rw [d12] at t39
          simp [execOp, go_sem, t39, h21, h21i, hb21, kc]
          exact ⟨hC, Below.refl _ _, rfl⟩
        · intro v W ρ y hC kc kf ks ki ky ku kd
          have dg : v 11 = .bool false := kd _ (Array.mem_of_getElem? (i := 1) rfl) rfl
          have hy := ky 11 38 false (by decide) rfl dg
          rw [if_pos (by simp [Region.wanted, hy])]
          have d13 : v 13 = .int .u8 (byteN t 21 : Int) := kd _ (Array.mem_of_getElem? (i := 0) rfl) rfl
          have t40 : ρ (.tmp 40) = v 13 := ks 13 40 (by decide) rfl
          rw [d13] at t40
          simp [execOp, go_sem, t40, hb0, kc]
          exact ⟨hC, Below.refl _ _, rfl⟩
        · intro v W ρ y hC kc kf ks ki ky ku kd
          have dg : v 7 = .bool true := kd _ (Array.mem_of_getElem? (i := 2) rfl) rfl
          have hy := ky 7 34 true (by decide) rfl dg
          rw [if_pos (by simp [Region.wanted, hy])]
          have d11 : v 11 = .bool false := kd _ (Array.mem_of_getElem? (i := 0) rfl) rfl
          have t38 : ρ (.tmp 38) = v 11 := ks 11 38 (by decide) rfl
          rw [d11] at t38
          have d14 : v 14 = .bool false := kd _ (Array.mem_of_getElem? (i := 1) rfl) rfl
          have t41 : ρ (.tmp 41) = v 14 := ks 14 41 (by decide) rfl
          rw [d14] at t41
          simp [execOp, go_sem, t38, t41, kc]
          exact ⟨hC, Below.refl _ _, rfl⟩
        · intro v W ρ y hC kc kf ks ki ky ku kd
          have dg : v 3 = .bool false := kd _ (Array.mem_of_getElem? (i := 2) rfl) rfl
          have hy := ky 3 30 false (by decide) rfl dg
          rw [if_pos (by simp [Region.wanted, hy])]
          have d7 : v 7 = .bool true := kd _ (Array.mem_of_getElem? (i := 0) rfl) rfl
          have t34 : ρ (.tmp 34) = v 7 := ks 7 34 (by decide) rfl
          rw [d7] at t34
          have d15 : v 15 = .bool false := kd _ (Array.mem_of_getElem? (i := 1) rfl) rfl
          have t42 : ρ (.tmp 42) = v 15 := ks 15 42 (by decide) rfl
          rw [d15] at t42
          simp [execOp, go_sem, t34, t42, kc]
          exact ⟨hC, Below.refl _ _, rfl⟩
        · refine stepW_of_u ⟨rfl, fun v W ρ hC kc kf ks ki kd => ?_⟩
          have d3 : v 3 = .bool false := kd _ (Array.mem_of_getElem? (i := 0) rfl) rfl
          have t30 : ρ (.tmp 30) = v 3 := ks 3 30 (by decide) rfl
          rw [d3] at t30
          have d16 : v 16 = .bool false := kd _ (Array.mem_of_getElem? (i := 1) rfl) rfl
          have t43 : ρ (.tmp 43) = v 16 := ks 16 43 (by decide) rfl
          rw [d16] at t43
          simp [execOp, go_sem, t30, t43, kc]
          exact ⟨hC, Below.refl _ _, rfl⟩
        · refine stepW_of_u ⟨rfl, fun v W ρ hC kc kf ks ki kd => ?_⟩
          have d17 : v 17 = .bool false := kd _ (Array.mem_of_getElem? (i := 0) rfl) rfl
          have t44 : ρ (.tmp 44) = v 17 := ks 17 44 (by decide) rfl
          rw [d17] at t44
          simp [execOp, go_sem, t44]
          exact ⟨hC, Below.refl _ _, rfl⟩
        · intro v W ρ y hC kc kf ks ki ky ku kd
          have dg : v 18 = .bool false := kd _ (Array.mem_of_getElem? (i := 0) rfl) rfl
          have hy := ky 18 45 false (by decide) rfl dg
          rw [if_pos (by simp [Region.wanted, hy])]
          have t3 : ρ (.tmp 3) = .string t := ki 3 (by decide)
          simp [execOp, go_sem, t3]
          exact ⟨hC, Below.refl _ _, rfl⟩
        · intro v W ρ y hC kc kf ks ki ky ku kd
          have dg : v 18 = .bool false := kd _ (Array.mem_of_getElem? (i := 1) rfl) rfl
          have hy := ky 18 45 false (by decide) rfl dg
          rw [if_pos (by simp [Region.wanted, hy])]
          have d19 : v 19 = .string t := kd _ (Array.mem_of_getElem? (i := 0) rfl) rfl
          have t46 : ρ (.tmp 46) = v 19 := ks 19 46 (by decide) rfl
          rw [d19] at t46
          simp [execOp, go_sem, t46, hts, hhz, kc]
          exact ⟨hC, Below.refl _ _, rfl⟩
        · intro v W ρ y hC kc kf ks ki ky ku kd
          have dg : v 18 = .bool false := kd _ (Array.mem_of_getElem? (i := 0) rfl) rfl
          have hy := ky 18 45 false (by decide) rfl dg
          rw [if_pos (by simp [Region.wanted, hy])]
          have t5 : ρ (.tmp 5) = .string h := ki 5 (by decide)
          simp [execOp, go_sem, t5]
          exact ⟨hC, Below.refl _ _, rfl⟩
        · intro v W ρ y hC kc kf ks ki ky ku kd
          have dg : v 18 = .bool false := kd _ (Array.mem_of_getElem? (i := 1) rfl) rfl
          have hy := ky 18 45 false (by decide) rfl dg
          rw [if_pos (by simp [Region.wanted, hy])]
          have d21 : v 21 = .string h := kd _ (Array.mem_of_getElem? (i := 0) rfl) rfl
          have t48 : ρ (.tmp 48) = v 21 := ks 21 48 (by decide) rfl
          rw [d21] at t48
          simp [execOp, go_sem, t48, hts, hhz, kc]
          exact ⟨hC, Below.refl _ _, rfl⟩
        · intro v W ρ y hC kc kf ks ki ky ku kd
          have dg : v 18 = .bool false := kd _ (Array.mem_of_getElem? (i := 2) rfl) rfl
          have hy := ky 18 45 false (by decide) rfl dg
          rw [if_pos (by simp [Region.wanted, hy])]
          have d20 : v 20 = .string (t.extract 0 2) := kd _ (Array.mem_of_getElem? (i := 0) rfl) rfl
          have t47 : ρ (.tmp 47) = v 20 := ks 20 47 (by decide) rfl
          rw [d20] at t47
          have d22 : v 22 = .string (h.extract 0 2) := kd _ (Array.mem_of_getElem? (i := 1) rfl) rfl
          have t49 : ρ (.tmp 49) = v 22 := ks 22 49 (by decide) rfl
          rw [d22] at t49
          simp [execOp, go_sem, t47, t49, he1]
          exact ⟨hC, Below.refl _ _, rfl⟩
        · refine stepW_of_u ⟨rfl, fun v W ρ hC kc kf ks ki kd => ?_⟩
          have d18 : v 18 = .bool false := kd _ (Array.mem_of_getElem? (i := 0) rfl) rfl
          have t45 : ρ (.tmp 45) = v 18 := ks 18 45 (by decide) rfl
          rw [d18] at t45
          have d23 : v 23 = .bool true := kd _ (Array.mem_of_getElem? (i := 1) rfl) rfl
          have t50 : ρ (.tmp 50) = v 23 := ks 23 50 (by decide) rfl
          rw [d23] at t50
          simp [execOp, go_sem, t45, t50, kc]
          exact ⟨hC, Below.refl _ _, rfl⟩
        · refine stepW_of_u ⟨rfl, fun v W ρ hC kc kf ks ki kd => ?_⟩
          have d24 : v 24 = .bool true := kd _ (Array.mem_of_getElem? (i := 0) rfl) rfl
          have t51 : ρ (.tmp 51) = v 24 := ks 24 51 (by decide) rfl
          rw [d24] at t51
          simp [execOp, go_sem, t51]
          exact ⟨hC, Below.refl _ _, rfl⟩
        · intro v W ρ y hC kc kf ks ki ky ku kd
          have dg : v 25 = .bool true := kd _ (Array.mem_of_getElem? (i := 0) rfl) rfl
          have hy := ky 25 52 true (by decide) rfl dg
          rw [if_neg (by simp [Region.wanted, hy])]
          exact ⟨Below.refl _ _, rfl⟩
        · intro v W ρ y hC kc kf ks ki ky ku kd
          have dg : v 25 = .bool true := kd _ (Array.mem_of_getElem? (i := 1) rfl) rfl
          have hy := ky 25 52 true (by decide) rfl dg
          rw [if_neg (by simp [Region.wanted, hy])]
          exact ⟨Below.refl _ _, rfl⟩
        · intro v W ρ y hC kc kf ks ki ky ku kd
          have dg : v 25 = .bool true := kd _ (Array.mem_of_getElem? (i := 0) rfl) rfl
          have hy := ky 25 52 true (by decide) rfl dg
          rw [if_neg (by simp [Region.wanted, hy])]
          exact ⟨Below.refl _ _, rfl⟩
        · intro v W ρ y hC kc kf ks ki ky ku kd
          have dg : v 25 = .bool true := kd _ (Array.mem_of_getElem? (i := 1) rfl) rfl
          have hy := ky 25 52 true (by decide) rfl dg
          rw [if_neg (by simp [Region.wanted, hy])]
          exact ⟨Below.refl _ _, rfl⟩
        · intro v W ρ y hC kc kf ks ki ky ku kd
          have dg : v 25 = .bool true := kd _ (Array.mem_of_getElem? (i := 2) rfl) rfl
          have hy := ky 25 52 true (by decide) rfl dg
          rw [if_neg (by simp [Region.wanted, hy])]
          exact ⟨Below.refl _ _, rfl⟩
        · refine stepW_of_u ⟨rfl, fun v W ρ hC kc kf ks ki kd => ?_⟩
          have d25 : v 25 = .bool true := kd _ (Array.mem_of_getElem? (i := 0) rfl) rfl
          have t52 : ρ (.tmp 52) = v 25 := ks 25 52 (by decide) rfl
          rw [d25] at t52
          have d30 : v 30 = undef := kd _ (Array.mem_of_getElem? (i := 1) rfl) rfl
          have t57 : ρ (.tmp 57) = v 30 := ks 30 57 (by decide) rfl
          rw [d30] at t57
          simp [execOp, go_sem, t52, t57, kc]
          exact ⟨hC, Below.refl _ _, rfl⟩
      case fin =>
        intro v W hC hall
        have hL0 : v 31 = .bool true := hall 31 (by decide)
        simp [upto, Act.put]
        rw [hL0]
        clear hall hL0
        have hE3 : okI t x = false := by rw [hOK.out, hrx, hp1, hk3, hb1, he1]; rfl
        have e1 : Hid (innerC p = 3) := by rw [hCx.out, if_pos hE3]; rfl
        have e2 : Hid (innerP p = zeroPk) := by rw [hPx.out, if_neg (by rw [e1.out]; decide)]; rfl
        have hGW := blk_later hG5 hC
        have hLW := hidS (hL5.out.trans (hC.mono hL5.out.size))
        have hPW := HP.out.later hC
        clear hE3 hOK hCx hPx hG5 hL5 HP H5 hC c0 c1 c2 c3 c4 c5 c6 c7 c8 c9
        have g0 := blk_cell hGW
        have gf := blk_free hGW
        go_wp2
        refine bodyPost_ret (v := .agg #[.int .i64 0, .int .i64 0, .int .i64 0, .int .i64 0, .int .i64 0, .int .i64 0, .int .i64 0, .int .i64 0, .int .i64 0, .string ⟨#[]⟩, .int .i64 3]) (by simp [results, Tryd.results18, go_sem, g0]) rfl ⟨by rw [e1.out, e2.out]; rfl, ?_⟩
        iterate 11 (refine below_at ?_ (Nat.le_succ _))
        exact hLW.out
    cases he2 : ((t.extract 4 10).toList == (h.extract 4 10).toList)
    · skip
      go_wp2_with fail
      refine grow_guarded 32 [.is (.agg #[.int .i64 x.src, .int .i64 x.dst, .int .i64 x.proto, .int .i64 x.a, .int .i64 x.b, .int .i64 x.kind, .int .i64 x.flags, .int .i64 x.seq, .int .i64 x.ack, .string x.body]), .is (.bool true), .is (.bool false), .is (.bool false), .is (.pointer (some ⟨w3.heap.size, 2, none⟩)), .is (.int .i64 x.proto), .is (.bool true), .is (.bool true), .is (.pointer (some ⟨w3.heap.size, 5, none⟩)), .is (.int .i64 x.kind), .is (.bool false), .is (.bool false), .is (.string t), .is (.int .u8 (byteN t 21 : Int)), .is (.bool false), .is (.bool false), .is (.bool false), .is (.bool false), .is (.bool false), .is (.string t), .is (.string (t.extract 0 2)), .is (.string h), .is (.string (h.extract 0 2)), .is (.bool false), .is (.bool false), .is (.bool false), .is (.string t), .is (.string (t.extract 4 10)), .is (.string h), .is (.string (h.extract 4 10)), .is (.bool true), .is (.bool true)] rfl (by kernel_rfl) (by kernel_rfl) ?steps ?fin
      case steps =>
        refine ⟨?_, ?_, ?_, ?_, ?_, ?_, ?_, ?_, ?_, ?_, ?_, ?_, ?_, ?_, ?_, ?_, ?_, ?_, ?_, ?_, ?_, ?_, ?_, ?_, ?_, ?_, ?_, ?_, ?_, ?_, ?_, ?_, trivial⟩
        · refine stepW_of_u ⟨rfl, fun v W ρ hC kc kf ks ki kd => ?_⟩
          have t4 : ρ (.tmp 4) = .pointer (some ⟨w3.heap.size, 0, none⟩) := ki 4 (by decide)
          have hp := HP.out.later hC
          obtain ⟨c0, c1, c2, c3, c4, c5, c6, c7, c8, c9⟩ := hp
          simp [execOp, go_sem, t4, c0, c1, c2, c3, c4, c5, c6, c7, c8, c9]
          exact ⟨hC, Below.refl _ _, rfl⟩
        · refine stepW_of_u ⟨rfl, fun v W ρ hC kc kf ks ki kd => ?_⟩
          have d0 : v 0 = .agg #[.int .i64 x.src, .int .i64 x.dst, .int .i64 x.proto, .int .i64 x.a, .int .i64 x.b, .int .i64 x.kind, .int .i64 x.flags, .int .i64 x.seq, .int .i64 x.ack, .string x.body] := kd _ (Array.mem_of_getElem? (i := 0) rfl) rfl
          have t27 : ρ (.tmp 27) = v 0 := ks 0 27 (by decide) rfl
          rw [d0] at t27
          simp [execOp, go_sem, t27, kf]
          exact Calls.mono (specRight_is x _ hxb hrx) (fun e x h => ⟨_, h.1, hC.trans (h.2.mono hC.size), h.2, rfl⟩)
        · refine stepW_of_u ⟨rfl, fun v W ρ hC kc kf ks ki kd => ?_⟩
          have d1 : v 1 = .bool true := kd _ (Array.mem_of_getElem? (i := 0) rfl) rfl
          have t28 : ρ (.tmp 28) = v 1 := ks 1 28 (by decide) rfl
          rw [d1] at t28
          simp [execOp, go_sem, t28]
          exact ⟨hC, Below.refl _ _, rfl⟩
        · refine stepW_of_u ⟨rfl, fun v W ρ hC kc kf ks ki kd => ?_⟩
          have d2 : v 2 = .bool false := kd _ (Array.mem_of_getElem? (i := 0) rfl) rfl
          have t29 : ρ (.tmp 29) = v 2 := ks 2 29 (by decide) rfl
          rw [d2] at t29
          simp [execOp, go_sem, t29]
          exact ⟨hC, Below.refl _ _, rfl⟩
        · intro v W ρ y hC kc kf ks ki ky ku kd
          have dg : v 3 = .bool false := kd _ (Array.mem_of_getElem? (i := 0) rfl) rfl
          have hy := ky 3 30 false (by decide) rfl dg
          rw [if_pos (by simp [Region.wanted, hy])]
          have t4 : ρ (.tmp 4) = .pointer (some ⟨w3.heap.size, 0, none⟩) := ki 4 (by decide)
          simp [execOp, go_sem, t4]
          exact ⟨hC, Below.refl _ _, rfl⟩
        · intro v W ρ y hC kc kf ks ki ky ku kd
          have dg : v 3 = .bool false := kd _ (Array.mem_of_getElem? (i := 1) rfl) rfl
          have hy := ky 3 30 false (by decide) rfl dg
          rw [if_pos (by simp [Region.wanted, hy])]
          have d4 : v 4 = .pointer (some ⟨w3.heap.size, 2, none⟩) := kd _ (Array.mem_of_getElem? (i := 0) rfl) rfl
          have t31 : ρ (.tmp 31) = v 4 := ks 4 31 (by decide) rfl
          rw [d4] at t31
          have hp := HP.out.later hC
          obtain ⟨c0, c1, c2, c3, c4, c5, c6, c7, c8, c9⟩ := hp
          simp [execOp, go_sem, t31, c2]
          exact ⟨hC, Below.refl _ _, rfl⟩
        · intro v W ρ y hC kc kf ks ki ky ku kd
          have dg : v 3 = .bool false := kd _ (Array.mem_of_getElem? (i := 1) rfl) rfl
          have hy := ky 3 30 false (by decide) rfl dg
          rw [if_pos (by simp [Region.wanted, hy])]
          have d5 : v 5 = .int .i64 x.proto := kd _ (Array.mem_of_getElem? (i := 0) rfl) rfl
          have t32 : ρ (.tmp 32) = v 5 := ks 5 32 (by decide) rfl
          rw [d5] at t32
          simp [execOp, go_sem, t32, hp1, kc]
          exact ⟨hC, Below.refl _ _, rfl⟩
        · intro v W ρ y hC kc kf ks ki ky ku kd
          have dg : v 3 = .bool false := kd _ (Array.mem_of_getElem? (i := 1) rfl) rfl
          have hy := ky 3 30 false (by decide) rfl dg
          rw [if_pos (by simp [Region.wanted, hy])]
          have d6 : v 6 = .bool true := kd _ (Array.mem_of_getElem? (i := 0) rfl) rfl
          have t33 : ρ (.tmp 33) = v 6 := ks 6 33 (by decide) rfl
          rw [d6] at t33
          simp [execOp, go_sem, t33]
          exact ⟨hC, Below.refl _ _, rfl⟩
        · intro v W ρ y hC kc kf ks ki ky ku kd
          have dg : v 7 = .bool true := kd _ (Array.mem_of_getElem? (i := 0) rfl) rfl
          have hy := ky 7 34 true (by decide) rfl dg
          rw [if_pos (by simp [Region.wanted, hy])]
          have t4 : ρ (.tmp 4) = .pointer (some ⟨w3.heap.size, 0, none⟩) := ki 4 (by decide)
          simp [execOp, go_sem, t4]
          exact ⟨hC, Below.refl _ _, rfl⟩
        · intro v W ρ y hC kc kf ks ki ky ku kd
          have dg : v 7 = .bool true := kd _ (Array.mem_of_getElem? (i := 1) rfl) rfl
          have hy := ky 7 34 true (by decide) rfl dg
          rw [if_pos (by simp [Region.wanted, hy])]
          have d8 : v 8 = .pointer (some ⟨w3.heap.size, 5, none⟩) := kd _ (Array.mem_of_getElem? (i := 0) rfl) rfl
          have t35 : ρ (.tmp 35) = v 8 := ks 8 35 (by decide) rfl
          rw [d8] at t35
          have hp := HP.out.later hC
          obtain ⟨c0, c1, c2, c3, c4, c5, c6, c7, c8, c9⟩ := hp
          simp [execOp, go_sem, t35, c5]
          exact ⟨hC, Below.refl _ _, rfl⟩
        · intro v W ρ y hC kc kf ks ki ky ku kd
          have dg : v 7 = .bool true := kd _ (Array.mem_of_getElem? (i := 1) rfl) rfl
          have hy := ky 7 34 true (by decide) rfl dg
          rw [if_pos (by simp [Region.wanted, hy])]
          have d9 : v 9 = .int .i64 x.kind := kd _ (Array.mem_of_getElem? (i := 0) rfl) rfl
          have t36 : ρ (.tmp 36) = v 9 := ks 9 36 (by decide) rfl
          rw [d9] at t36
          simp [execOp, go_sem, t36, hk3, kc]
          exact ⟨hC, Below.refl _ _, rfl⟩
        · intro v W ρ y hC kc kf ks ki ky ku kd
          have dg : v 7 = .bool true := kd _ (Array.mem_of_getElem? (i := 1) rfl) rfl
          have hy := ky 7 34 true (by decide) rfl dg
          rw [if_pos (by simp [Region.wanted, hy])]
          have d10 : v 10 = .bool false := kd _ (Array.mem_of_getElem? (i := 0) rfl) rfl
          have t37 : ρ (.tmp 37) = v 10 := ks 10 37 (by decide) rfl
          rw [d10] at t37
          simp [execOp, go_sem, t37]
          exact ⟨hC, Below.refl _ _, rfl⟩
        · intro v W ρ y hC kc kf ks ki ky ku kd
          have dg : v 11 = .bool false := kd _ (Array.mem_of_getElem? (i := 0) rfl) rfl
          have hy := ky 11 38 false (by decide) rfl dg
          rw [if_pos (by simp [Region.wanted, hy])]
          have t3 : ρ (.tmp 3) = .string t := ki 3 (by decide)
          simp [execOp, go_sem, t3]
          exact ⟨hC, Below.refl _ _, rfl⟩
        · intro v W ρ y hC kc kf ks ki ky ku kd
          have dg : v 11 = .bool false := kd _ (Array.mem_of_getElem? (i := 1) rfl) rfl
          have hy := ky 11 38 false (by decide) rfl dg
          rw [if_pos (by simp [Region.wanted, hy])]
          have d12 : v 12 = .string t := kd _ (Array.mem_of_getElem? (i := 0) rfl) rfl
          have t39 : ρ (.tmp 39) = v 12 := ks 12 39 (by decide) rfl
          rw [d12] at t39
          simp [execOp, go_sem, t39, h21, h21i, hb21, kc]
          exact ⟨hC, Below.refl _ _, rfl⟩
        · intro v W ρ y hC kc kf ks ki ky ku kd
          have dg : v 11 = .bool false := kd _ (Array.mem_of_getElem? (i := 1) rfl) rfl
          have hy := ky 11 38 false (by decide) rfl dg
          rw [if_pos (by simp [Region.wanted, hy])]
          have d13 : v 13 = .int .u8 (byteN t 21 : Int) := kd _ (Array.mem_of_getElem? (i := 0) rfl) rfl
          have t40 : ρ (.tmp 40) = v 13 := ks 13 40 (by decide) rfl
          rw [d13] at t40
          simp [execOp, go_sem, t40, hb0, kc]
          exact ⟨hC, Below.refl _ _, rfl⟩
        · intro v W ρ y hC kc kf ks ki ky ku kd
          have dg : v 7 = .bool true := kd _ (Array.mem_of_getElem? (i := 2) rfl) rfl
          have hy := ky 7 34 true (by decide) rfl dg
          rw [if_pos (by simp [Region.wanted, hy])]
          have d11 : v 11 = .bool false := kd _ (Array.mem_of_getElem? (i := 0) rfl) rfl
          have t38 : ρ (.tmp 38) = v 11 := ks 11 38 (by decide) rfl
          rw [d11] at t38
          have d14 : v 14 = .bool false := kd _ (Array.mem_of_getElem? (i := 1) rfl) rfl
          have t41 : ρ (.tmp 41) = v 14 := ks 14 41 (by decide) rfl
          rw [d14] at t41
          simp [execOp, go_sem, t38, t41, kc]
          exact ⟨hC, Below.refl _ _, rfl⟩
        · intro v W ρ y hC kc kf ks ki ky ku kd
          have dg : v 3 = .bool false := kd _ (Array.mem_of_getElem? (i := 2) rfl) rfl
          have hy := ky 3 30 false (by decide) rfl dg
          rw [if_pos (by simp [Region.wanted, hy])]
          have d7 : v 7 = .bool true := kd _ (Array.mem_of_getElem? (i := 0) rfl) rfl
          have t34 : ρ (.tmp 34) = v 7 := ks 7 34 (by decide) rfl
          rw [d7] at t34
          have d15 : v 15 = .bool false := kd _ (Array.mem_of_getElem? (i := 1) rfl) rfl
          have t42 : ρ (.tmp 42) = v 15 := ks 15 42 (by decide) rfl
          rw [d15] at t42
          simp [execOp, go_sem, t34, t42, kc]
          exact ⟨hC, Below.refl _ _, rfl⟩
        · refine stepW_of_u ⟨rfl, fun v W ρ hC kc kf ks ki kd => ?_⟩
          have d3 : v 3 = .bool false := kd _ (Array.mem_of_getElem? (i := 0) rfl) rfl
          have t30 : ρ (.tmp 30) = v 3 := ks 3 30 (by decide) rfl
          rw [d3] at t30
          have d16 : v 16 = .bool false := kd _ (Array.mem_of_getElem? (i := 1) rfl) rfl
          have t43 : ρ (.tmp 43) = v 16 := ks 16 43 (by decide) rfl
          rw [d16] at t43
          simp [execOp, go_sem, t30, t43, kc]
          exact ⟨hC, Below.refl _ _, rfl⟩
        · refine stepW_of_u ⟨rfl, fun v W ρ hC kc kf ks ki kd => ?_⟩
          have d17 : v 17 = .bool false := kd _ (Array.mem_of_getElem? (i := 0) rfl) rfl
          have t44 : ρ (.tmp 44) = v 17 := ks 17 44 (by decide) rfl
          rw [d17] at t44
          simp [execOp, go_sem, t44]
          exact ⟨hC, Below.refl _ _, rfl⟩
        · intro v W ρ y hC kc kf ks ki ky ku kd
          have dg : v 18 = .bool false := kd _ (Array.mem_of_getElem? (i := 0) rfl) rfl
          have hy := ky 18 45 false (by decide) rfl dg
          rw [if_pos (by simp [Region.wanted, hy])]
          have t3 : ρ (.tmp 3) = .string t := ki 3 (by decide)
          simp [execOp, go_sem, t3]
          exact ⟨hC, Below.refl _ _, rfl⟩
        · intro v W ρ y hC kc kf ks ki ky ku kd
          have dg : v 18 = .bool false := kd _ (Array.mem_of_getElem? (i := 1) rfl) rfl
          have hy := ky 18 45 false (by decide) rfl dg
          rw [if_pos (by simp [Region.wanted, hy])]
          have d19 : v 19 = .string t := kd _ (Array.mem_of_getElem? (i := 0) rfl) rfl
          have t46 : ρ (.tmp 46) = v 19 := ks 19 46 (by decide) rfl
          rw [d19] at t46
          simp [execOp, go_sem, t46, hts, hhz, kc]
          exact ⟨hC, Below.refl _ _, rfl⟩
        · intro v W ρ y hC kc kf ks ki ky ku kd
          have dg : v 18 = .bool false := kd _ (Array.mem_of_getElem? (i := 0) rfl) rfl
          have hy := ky 18 45 false (by decide) rfl dg
          rw [if_pos (by simp [Region.wanted, hy])]
          have t5 : ρ (.tmp 5) = .string h := ki 5 (by decide)
          simp [execOp, go_sem, t5]
          exact ⟨hC, Below.refl _ _, rfl⟩
        · intro v W ρ y hC kc kf ks ki ky ku kd
          have dg : v 18 = .bool false := kd _ (Array.mem_of_getElem? (i := 1) rfl) rfl
          have hy := ky 18 45 false (by decide) rfl dg
          rw [if_pos (by simp [Region.wanted, hy])]
          have d21 : v 21 = .string h := kd _ (Array.mem_of_getElem? (i := 0) rfl) rfl
          have t48 : ρ (.tmp 48) = v 21 := ks 21 48 (by decide) rfl
          rw [d21] at t48
          simp [execOp, go_sem, t48, hts, hhz, kc]
          exact ⟨hC, Below.refl _ _, rfl⟩
        · intro v W ρ y hC kc kf ks ki ky ku kd
          have dg : v 18 = .bool false := kd _ (Array.mem_of_getElem? (i := 2) rfl) rfl
          have hy := ky 18 45 false (by decide) rfl dg
          rw [if_pos (by simp [Region.wanted, hy])]
          have d20 : v 20 = .string (t.extract 0 2) := kd _ (Array.mem_of_getElem? (i := 0) rfl) rfl
          have t47 : ρ (.tmp 47) = v 20 := ks 20 47 (by decide) rfl
          rw [d20] at t47
          have d22 : v 22 = .string (h.extract 0 2) := kd _ (Array.mem_of_getElem? (i := 1) rfl) rfl
          have t49 : ρ (.tmp 49) = v 22 := ks 22 49 (by decide) rfl
          rw [d22] at t49
          simp [execOp, go_sem, t47, t49, he1]
          exact ⟨hC, Below.refl _ _, rfl⟩
        · refine stepW_of_u ⟨rfl, fun v W ρ hC kc kf ks ki kd => ?_⟩
          have d18 : v 18 = .bool false := kd _ (Array.mem_of_getElem? (i := 0) rfl) rfl
          have t45 : ρ (.tmp 45) = v 18 := ks 18 45 (by decide) rfl
          rw [d18] at t45
          have d23 : v 23 = .bool false := kd _ (Array.mem_of_getElem? (i := 1) rfl) rfl
          have t50 : ρ (.tmp 50) = v 23 := ks 23 50 (by decide) rfl
          rw [d23] at t50
          simp [execOp, go_sem, t45, t50, kc]
          exact ⟨hC, Below.refl _ _, rfl⟩
        · refine stepW_of_u ⟨rfl, fun v W ρ hC kc kf ks ki kd => ?_⟩
          have d24 : v 24 = .bool false := kd _ (Array.mem_of_getElem? (i := 0) rfl) rfl
          have t51 : ρ (.tmp 51) = v 24 := ks 24 51 (by decide) rfl
          rw [d24] at t51
          simp [execOp, go_sem, t51]
          exact ⟨hC, Below.refl _ _, rfl⟩
        · intro v W ρ y hC kc kf ks ki ky ku kd
          have dg : v 25 = .bool false := kd _ (Array.mem_of_getElem? (i := 0) rfl) rfl
          have hy := ky 25 52 false (by decide) rfl dg
          rw [if_pos (by simp [Region.wanted, hy])]
          have t3 : ρ (.tmp 3) = .string t := ki 3 (by decide)
          simp [execOp, go_sem, t3]
          exact ⟨hC, Below.refl _ _, rfl⟩
        · intro v W ρ y hC kc kf ks ki ky ku kd
          have dg : v 25 = .bool false := kd _ (Array.mem_of_getElem? (i := 1) rfl) rfl
          have hy := ky 25 52 false (by decide) rfl dg
          rw [if_pos (by simp [Region.wanted, hy])]
          have d26 : v 26 = .string t := kd _ (Array.mem_of_getElem? (i := 0) rfl) rfl
          have t53 : ρ (.tmp 53) = v 26 := ks 26 53 (by decide) rfl
          rw [d26] at t53
          simp [execOp, go_sem, t53, hts, hhz, kc]
          exact ⟨hC, Below.refl _ _, rfl⟩
        · intro v W ρ y hC kc kf ks ki ky ku kd
          have dg : v 25 = .bool false := kd _ (Array.mem_of_getElem? (i := 0) rfl) rfl
          have hy := ky 25 52 false (by decide) rfl dg
          rw [if_pos (by simp [Region.wanted, hy])]
          have t5 : ρ (.tmp 5) = .string h := ki 5 (by decide)
          simp [execOp, go_sem, t5]
          exact ⟨hC, Below.refl _ _, rfl⟩
        · intro v W ρ y hC kc kf ks ki ky ku kd
          have dg : v 25 = .bool false := kd _ (Array.mem_of_getElem? (i := 1) rfl) rfl
          have hy := ky 25 52 false (by decide) rfl dg
          rw [if_pos (by simp [Region.wanted, hy])]
          have d28 : v 28 = .string h := kd _ (Array.mem_of_getElem? (i := 0) rfl) rfl
          have t55 : ρ (.tmp 55) = v 28 := ks 28 55 (by decide) rfl
          rw [d28] at t55
          simp [execOp, go_sem, t55, hts, hhz, kc]
          exact ⟨hC, Below.refl _ _, rfl⟩
        · intro v W ρ y hC kc kf ks ki ky ku kd
          have dg : v 25 = .bool false := kd _ (Array.mem_of_getElem? (i := 2) rfl) rfl
          have hy := ky 25 52 false (by decide) rfl dg
          rw [if_pos (by simp [Region.wanted, hy])]
          have d27 : v 27 = .string (t.extract 4 10) := kd _ (Array.mem_of_getElem? (i := 0) rfl) rfl
          have t54 : ρ (.tmp 54) = v 27 := ks 27 54 (by decide) rfl
          rw [d27] at t54
          have d29 : v 29 = .string (h.extract 4 10) := kd _ (Array.mem_of_getElem? (i := 1) rfl) rfl
          have t56 : ρ (.tmp 56) = v 29 := ks 29 56 (by decide) rfl
          rw [d29] at t56
          simp [execOp, go_sem, t54, t56, he2]
          exact ⟨hC, Below.refl _ _, rfl⟩
        · refine stepW_of_u ⟨rfl, fun v W ρ hC kc kf ks ki kd => ?_⟩
          have d25 : v 25 = .bool false := kd _ (Array.mem_of_getElem? (i := 0) rfl) rfl
          have t52 : ρ (.tmp 52) = v 25 := ks 25 52 (by decide) rfl
          rw [d25] at t52
          have d30 : v 30 = .bool true := kd _ (Array.mem_of_getElem? (i := 1) rfl) rfl
          have t57 : ρ (.tmp 57) = v 30 := ks 30 57 (by decide) rfl
          rw [d30] at t57
          simp [execOp, go_sem, t52, t57, kc]
          exact ⟨hC, Below.refl _ _, rfl⟩
      case fin =>
        intro v W hC hall
        have hL0 : v 31 = .bool true := hall 31 (by decide)
        simp [upto, Act.put]
        rw [hL0]
        clear hall hL0
        have hE3 : okI t x = false := by rw [hOK.out, hrx, hp1, hk3, hb1, he1, he2]; rfl
        have e1 : Hid (innerC p = 3) := by rw [hCx.out, if_pos hE3]; rfl
        have e2 : Hid (innerP p = zeroPk) := by rw [hPx.out, if_neg (by rw [e1.out]; decide)]; rfl
        have hGW := blk_later hG5 hC
        have hLW := hidS (hL5.out.trans (hC.mono hL5.out.size))
        have hPW := HP.out.later hC
        clear hE3 hOK hCx hPx hG5 hL5 HP H5 hC c0 c1 c2 c3 c4 c5 c6 c7 c8 c9
        have g0 := blk_cell hGW
        have gf := blk_free hGW
        go_wp2
        refine bodyPost_ret (v := .agg #[.int .i64 0, .int .i64 0, .int .i64 0, .int .i64 0, .int .i64 0, .int .i64 0, .int .i64 0, .int .i64 0, .int .i64 0, .string ⟨#[]⟩, .int .i64 3]) (by simp [results, Tryd.results18, go_sem, g0]) rfl ⟨by rw [e1.out, e2.out]; rfl, ?_⟩
        iterate 11 (refine below_at ?_ (Nat.le_succ _))
        exact hLW.out
    · skip
      go_wp2_with fail
      refine grow_guarded 32 [.is (.agg #[.int .i64 x.src, .int .i64 x.dst, .int .i64 x.proto, .int .i64 x.a, .int .i64 x.b, .int .i64 x.kind, .int .i64 x.flags, .int .i64 x.seq, .int .i64 x.ack, .string x.body]), .is (.bool true), .is (.bool false), .is (.bool false), .is (.pointer (some ⟨w3.heap.size, 2, none⟩)), .is (.int .i64 x.proto), .is (.bool true), .is (.bool true), .is (.pointer (some ⟨w3.heap.size, 5, none⟩)), .is (.int .i64 x.kind), .is (.bool false), .is (.bool false), .is (.string t), .is (.int .u8 (byteN t 21 : Int)), .is (.bool false), .is (.bool false), .is (.bool false), .is (.bool false), .is (.bool false), .is (.string t), .is (.string (t.extract 0 2)), .is (.string h), .is (.string (h.extract 0 2)), .is (.bool false), .is (.bool false), .is (.bool false), .is (.string t), .is (.string (t.extract 4 10)), .is (.string h), .is (.string (h.extract 4 10)), .is (.bool false), .is (.bool false)] rfl (by kernel_rfl) (by kernel_rfl) ?steps ?fin
      case steps =>
        refine ⟨?_, ?_, ?_, ?_, ?_, ?_, ?_, ?_, ?_, ?_, ?_, ?_, ?_, ?_, ?_, ?_, ?_, ?_, ?_, ?_, ?_, ?_, ?_, ?_, ?_, ?_, ?_, ?_, ?_, ?_, ?_, ?_, trivial⟩
        · refine stepW_of_u ⟨rfl, fun v W ρ hC kc kf ks ki kd => ?_⟩
          have t4 : ρ (.tmp 4) = .pointer (some ⟨w3.heap.size, 0, none⟩) := ki 4 (by decide)
          have hp := HP.out.later hC
          obtain ⟨c0, c1, c2, c3, c4, c5, c6, c7, c8, c9⟩ := hp
          simp [execOp, go_sem, t4, c0, c1, c2, c3, c4, c5, c6, c7, c8, c9]
          exact ⟨hC, Below.refl _ _, rfl⟩
        · refine stepW_of_u ⟨rfl, fun v W ρ hC kc kf ks ki kd => ?_⟩
          have d0 : v 0 = .agg #[.int .i64 x.src, .int .i64 x.dst, .int .i64 x.proto, .int .i64 x.a, .int .i64 x.b, .int .i64 x.kind, .int .i64 x.flags, .int .i64 x.seq, .int .i64 x.ack, .string x.body] := kd _ (Array.mem_of_getElem? (i := 0) rfl) rfl
          have t27 : ρ (.tmp 27) = v 0 := ks 0 27 (by decide) rfl
          rw [d0] at t27
          simp [execOp, go_sem, t27, kf]
          exact Calls.mono (specRight_is x _ hxb hrx) (fun e x h => ⟨_, h.1, hC.trans (h.2.mono hC.size), h.2, rfl⟩)
        · refine stepW_of_u ⟨rfl, fun v W ρ hC kc kf ks ki kd => ?_⟩
          have d1 : v 1 = .bool true := kd _ (Array.mem_of_getElem? (i := 0) rfl) rfl
          have t28 : ρ (.tmp 28) = v 1 := ks 1 28 (by decide) rfl
          rw [d1] at t28
          simp [execOp, go_sem, t28]
          exact ⟨hC, Below.refl _ _, rfl⟩
        · refine stepW_of_u ⟨rfl, fun v W ρ hC kc kf ks ki kd => ?_⟩
          have d2 : v 2 = .bool false := kd _ (Array.mem_of_getElem? (i := 0) rfl) rfl
          have t29 : ρ (.tmp 29) = v 2 := ks 2 29 (by decide) rfl
          rw [d2] at t29
          simp [execOp, go_sem, t29]
          exact ⟨hC, Below.refl _ _, rfl⟩
        · intro v W ρ y hC kc kf ks ki ky ku kd
          have dg : v 3 = .bool false := kd _ (Array.mem_of_getElem? (i := 0) rfl) rfl
          have hy := ky 3 30 false (by decide) rfl dg
          rw [if_pos (by simp [Region.wanted, hy])]
          have t4 : ρ (.tmp 4) = .pointer (some ⟨w3.heap.size, 0, none⟩) := ki 4 (by decide)
          simp [execOp, go_sem, t4]
          exact ⟨hC, Below.refl _ _, rfl⟩
        · intro v W ρ y hC kc kf ks ki ky ku kd
          have dg : v 3 = .bool false := kd _ (Array.mem_of_getElem? (i := 1) rfl) rfl
          have hy := ky 3 30 false (by decide) rfl dg
          rw [if_pos (by simp [Region.wanted, hy])]
          have d4 : v 4 = .pointer (some ⟨w3.heap.size, 2, none⟩) := kd _ (Array.mem_of_getElem? (i := 0) rfl) rfl
          have t31 : ρ (.tmp 31) = v 4 := ks 4 31 (by decide) rfl
          rw [d4] at t31
          have hp := HP.out.later hC
          obtain ⟨c0, c1, c2, c3, c4, c5, c6, c7, c8, c9⟩ := hp
          simp [execOp, go_sem, t31, c2]
          exact ⟨hC, Below.refl _ _, rfl⟩
        · intro v W ρ y hC kc kf ks ki ky ku kd
          have dg : v 3 = .bool false := kd _ (Array.mem_of_getElem? (i := 1) rfl) rfl
          have hy := ky 3 30 false (by decide) rfl dg
          rw [if_pos (by simp [Region.wanted, hy])]
          have d5 : v 5 = .int .i64 x.proto := kd _ (Array.mem_of_getElem? (i := 0) rfl) rfl
          have t32 : ρ (.tmp 32) = v 5 := ks 5 32 (by decide) rfl
          rw [d5] at t32
          simp [execOp, go_sem, t32, hp1, kc]
          exact ⟨hC, Below.refl _ _, rfl⟩
        · intro v W ρ y hC kc kf ks ki ky ku kd
          have dg : v 3 = .bool false := kd _ (Array.mem_of_getElem? (i := 1) rfl) rfl
          have hy := ky 3 30 false (by decide) rfl dg
          rw [if_pos (by simp [Region.wanted, hy])]
          have d6 : v 6 = .bool true := kd _ (Array.mem_of_getElem? (i := 0) rfl) rfl
          have t33 : ρ (.tmp 33) = v 6 := ks 6 33 (by decide) rfl
          rw [d6] at t33
          simp [execOp, go_sem, t33]
          exact ⟨hC, Below.refl _ _, rfl⟩
        · intro v W ρ y hC kc kf ks ki ky ku kd
          have dg : v 7 = .bool true := kd _ (Array.mem_of_getElem? (i := 0) rfl) rfl
          have hy := ky 7 34 true (by decide) rfl dg
          rw [if_pos (by simp [Region.wanted, hy])]
          have t4 : ρ (.tmp 4) = .pointer (some ⟨w3.heap.size, 0, none⟩) := ki 4 (by decide)
          simp [execOp, go_sem, t4]
          exact ⟨hC, Below.refl _ _, rfl⟩
        · intro v W ρ y hC kc kf ks ki ky ku kd
          have dg : v 7 = .bool true := kd _ (Array.mem_of_getElem? (i := 1) rfl) rfl
          have hy := ky 7 34 true (by decide) rfl dg
          rw [if_pos (by simp [Region.wanted, hy])]
          have d8 : v 8 = .pointer (some ⟨w3.heap.size, 5, none⟩) := kd _ (Array.mem_of_getElem? (i := 0) rfl) rfl
          have t35 : ρ (.tmp 35) = v 8 := ks 8 35 (by decide) rfl
          rw [d8] at t35
          have hp := HP.out.later hC
          obtain ⟨c0, c1, c2, c3, c4, c5, c6, c7, c8, c9⟩ := hp
          simp [execOp, go_sem, t35, c5]
          exact ⟨hC, Below.refl _ _, rfl⟩
        · intro v W ρ y hC kc kf ks ki ky ku kd
          have dg : v 7 = .bool true := kd _ (Array.mem_of_getElem? (i := 1) rfl) rfl
          have hy := ky 7 34 true (by decide) rfl dg
          rw [if_pos (by simp [Region.wanted, hy])]
          have d9 : v 9 = .int .i64 x.kind := kd _ (Array.mem_of_getElem? (i := 0) rfl) rfl
          have t36 : ρ (.tmp 36) = v 9 := ks 9 36 (by decide) rfl
          rw [d9] at t36
          simp [execOp, go_sem, t36, hk3, kc]
          exact ⟨hC, Below.refl _ _, rfl⟩
        · intro v W ρ y hC kc kf ks ki ky ku kd
          have dg : v 7 = .bool true := kd _ (Array.mem_of_getElem? (i := 1) rfl) rfl
          have hy := ky 7 34 true (by decide) rfl dg
          rw [if_pos (by simp [Region.wanted, hy])]
          have d10 : v 10 = .bool false := kd _ (Array.mem_of_getElem? (i := 0) rfl) rfl
          have t37 : ρ (.tmp 37) = v 10 := ks 10 37 (by decide) rfl
          rw [d10] at t37
          simp [execOp, go_sem, t37]
          exact ⟨hC, Below.refl _ _, rfl⟩
        · intro v W ρ y hC kc kf ks ki ky ku kd
          have dg : v 11 = .bool false := kd _ (Array.mem_of_getElem? (i := 0) rfl) rfl
          have hy := ky 11 38 false (by decide) rfl dg
          rw [if_pos (by simp [Region.wanted, hy])]
          have t3 : ρ (.tmp 3) = .string t := ki 3 (by decide)
          simp [execOp, go_sem, t3]
          exact ⟨hC, Below.refl _ _, rfl⟩
        · intro v W ρ y hC kc kf ks ki ky ku kd
          have dg : v 11 = .bool false := kd _ (Array.mem_of_getElem? (i := 1) rfl) rfl
          have hy := ky 11 38 false (by decide) rfl dg
          rw [if_pos (by simp [Region.wanted, hy])]
          have d12 : v 12 = .string t := kd _ (Array.mem_of_getElem? (i := 0) rfl) rfl
          have t39 : ρ (.tmp 39) = v 12 := ks 12 39 (by decide) rfl
          rw [d12] at t39
          simp [execOp, go_sem, t39, h21, h21i, hb21, kc]
          exact ⟨hC, Below.refl _ _, rfl⟩
        · intro v W ρ y hC kc kf ks ki ky ku kd
          have dg : v 11 = .bool false := kd _ (Array.mem_of_getElem? (i := 1) rfl) rfl
          have hy := ky 11 38 false (by decide) rfl dg
          rw [if_pos (by simp [Region.wanted, hy])]
          have d13 : v 13 = .int .u8 (byteN t 21 : Int) := kd _ (Array.mem_of_getElem? (i := 0) rfl) rfl
          have t40 : ρ (.tmp 40) = v 13 := ks 13 40 (by decide) rfl
          rw [d13] at t40
          simp [execOp, go_sem, t40, hb0, kc]
          exact ⟨hC, Below.refl _ _, rfl⟩
        · intro v W ρ y hC kc kf ks ki ky ku kd
          have dg : v 7 = .bool true := kd _ (Array.mem_of_getElem? (i := 2) rfl) rfl
          have hy := ky 7 34 true (by decide) rfl dg
          rw [if_pos (by simp [Region.wanted, hy])]
          have d11 : v 11 = .bool false := kd _ (Array.mem_of_getElem? (i := 0) rfl) rfl
          have t38 : ρ (.tmp 38) = v 11 := ks 11 38 (by decide) rfl
          rw [d11] at t38
          have d14 : v 14 = .bool false := kd _ (Array.mem_of_getElem? (i := 1) rfl) rfl
          have t41 : ρ (.tmp 41) = v 14 := ks 14 41 (by decide) rfl
          rw [d14] at t41
          simp [execOp, go_sem, t38, t41, kc]
          exact ⟨hC, Below.refl _ _, rfl⟩
        · intro v W ρ y hC kc kf ks ki ky ku kd
          have dg : v 3 = .bool false := kd _ (Array.mem_of_getElem? (i := 2) rfl) rfl
          have hy := ky 3 30 false (by decide) rfl dg
          rw [if_pos (by simp [Region.wanted, hy])]
          have d7 : v 7 = .bool true := kd _ (Array.mem_of_getElem? (i := 0) rfl) rfl
          have t34 : ρ (.tmp 34) = v 7 := ks 7 34 (by decide) rfl
          rw [d7] at t34
          have d15 : v 15 = .bool false := kd _ (Array.mem_of_getElem? (i := 1) rfl) rfl
          have t42 : ρ (.tmp 42) = v 15 := ks 15 42 (by decide) rfl
          rw [d15] at t42
          simp [execOp, go_sem, t34, t42, kc]
          exact ⟨hC, Below.refl _ _, rfl⟩
        · refine stepW_of_u ⟨rfl, fun v W ρ hC kc kf ks ki kd => ?_⟩
          have d3 : v 3 = .bool false := kd _ (Array.mem_of_getElem? (i := 0) rfl) rfl
          have t30 : ρ (.tmp 30) = v 3 := ks 3 30 (by decide) rfl
          rw [d3] at t30
          have d16 : v 16 = .bool false := kd _ (Array.mem_of_getElem? (i := 1) rfl) rfl
          have t43 : ρ (.tmp 43) = v 16 := ks 16 43 (by decide) rfl
          rw [d16] at t43
          simp [execOp, go_sem, t30, t43, kc]
          exact ⟨hC, Below.refl _ _, rfl⟩
        · refine stepW_of_u ⟨rfl, fun v W ρ hC kc kf ks ki kd => ?_⟩
          have d17 : v 17 = .bool false := kd _ (Array.mem_of_getElem? (i := 0) rfl) rfl
          have t44 : ρ (.tmp 44) = v 17 := ks 17 44 (by decide) rfl
          rw [d17] at t44
          simp [execOp, go_sem, t44]
          exact ⟨hC, Below.refl _ _, rfl⟩
        · intro v W ρ y hC kc kf ks ki ky ku kd
          have dg : v 18 = .bool false := kd _ (Array.mem_of_getElem? (i := 0) rfl) rfl
          have hy := ky 18 45 false (by decide) rfl dg
          rw [if_pos (by simp [Region.wanted, hy])]
          have t3 : ρ (.tmp 3) = .string t := ki 3 (by decide)
          simp [execOp, go_sem, t3]
          exact ⟨hC, Below.refl _ _, rfl⟩
        · intro v W ρ y hC kc kf ks ki ky ku kd
          have dg : v 18 = .bool false := kd _ (Array.mem_of_getElem? (i := 1) rfl) rfl
          have hy := ky 18 45 false (by decide) rfl dg
          rw [if_pos (by simp [Region.wanted, hy])]
          have d19 : v 19 = .string t := kd _ (Array.mem_of_getElem? (i := 0) rfl) rfl
          have t46 : ρ (.tmp 46) = v 19 := ks 19 46 (by decide) rfl
          rw [d19] at t46
          simp [execOp, go_sem, t46, hts, hhz, kc]
          exact ⟨hC, Below.refl _ _, rfl⟩
        · intro v W ρ y hC kc kf ks ki ky ku kd
          have dg : v 18 = .bool false := kd _ (Array.mem_of_getElem? (i := 0) rfl) rfl
          have hy := ky 18 45 false (by decide) rfl dg
          rw [if_pos (by simp [Region.wanted, hy])]
          have t5 : ρ (.tmp 5) = .string h := ki 5 (by decide)
          simp [execOp, go_sem, t5]
          exact ⟨hC, Below.refl _ _, rfl⟩
        · intro v W ρ y hC kc kf ks ki ky ku kd
          have dg : v 18 = .bool false := kd _ (Array.mem_of_getElem? (i := 1) rfl) rfl
          have hy := ky 18 45 false (by decide) rfl dg
          rw [if_pos (by simp [Region.wanted, hy])]
          have d21 : v 21 = .string h := kd _ (Array.mem_of_getElem? (i := 0) rfl) rfl
          have t48 : ρ (.tmp 48) = v 21 := ks 21 48 (by decide) rfl
          rw [d21] at t48
          simp [execOp, go_sem, t48, hts, hhz, kc]
          exact ⟨hC, Below.refl _ _, rfl⟩
        · intro v W ρ y hC kc kf ks ki ky ku kd
          have dg : v 18 = .bool false := kd _ (Array.mem_of_getElem? (i := 2) rfl) rfl
          have hy := ky 18 45 false (by decide) rfl dg
          rw [if_pos (by simp [Region.wanted, hy])]
          have d20 : v 20 = .string (t.extract 0 2) := kd _ (Array.mem_of_getElem? (i := 0) rfl) rfl
          have t47 : ρ (.tmp 47) = v 20 := ks 20 47 (by decide) rfl
          rw [d20] at t47
          have d22 : v 22 = .string (h.extract 0 2) := kd _ (Array.mem_of_getElem? (i := 1) rfl) rfl
          have t49 : ρ (.tmp 49) = v 22 := ks 22 49 (by decide) rfl
          rw [d22] at t49
          simp [execOp, go_sem, t47, t49, he1]
          exact ⟨hC, Below.refl _ _, rfl⟩
        · refine stepW_of_u ⟨rfl, fun v W ρ hC kc kf ks ki kd => ?_⟩
          have d18 : v 18 = .bool false := kd _ (Array.mem_of_getElem? (i := 0) rfl) rfl
          have t45 : ρ (.tmp 45) = v 18 := ks 18 45 (by decide) rfl
          rw [d18] at t45
          have d23 : v 23 = .bool false := kd _ (Array.mem_of_getElem? (i := 1) rfl) rfl
          have t50 : ρ (.tmp 50) = v 23 := ks 23 50 (by decide) rfl
          rw [d23] at t50
          simp [execOp, go_sem, t45, t50, kc]
          exact ⟨hC, Below.refl _ _, rfl⟩
        · refine stepW_of_u ⟨rfl, fun v W ρ hC kc kf ks ki kd => ?_⟩
          have d24 : v 24 = .bool false := kd _ (Array.mem_of_getElem? (i := 0) rfl) rfl
          have t51 : ρ (.tmp 51) = v 24 := ks 24 51 (by decide) rfl
          rw [d24] at t51
          simp [execOp, go_sem, t51]
          exact ⟨hC, Below.refl _ _, rfl⟩
        · intro v W ρ y hC kc kf ks ki ky ku kd
          have dg : v 25 = .bool false := kd _ (Array.mem_of_getElem? (i := 0) rfl) rfl
          have hy := ky 25 52 false (by decide) rfl dg
          rw [if_pos (by simp [Region.wanted, hy])]
          have t3 : ρ (.tmp 3) = .string t := ki 3 (by decide)
          simp [execOp, go_sem, t3]
          exact ⟨hC, Below.refl _ _, rfl⟩
        · intro v W ρ y hC kc kf ks ki ky ku kd
          have dg : v 25 = .bool false := kd _ (Array.mem_of_getElem? (i := 1) rfl) rfl
          have hy := ky 25 52 false (by decide) rfl dg
          rw [if_pos (by simp [Region.wanted, hy])]
          have d26 : v 26 = .string t := kd _ (Array.mem_of_getElem? (i := 0) rfl) rfl
          have t53 : ρ (.tmp 53) = v 26 := ks 26 53 (by decide) rfl
          rw [d26] at t53
          simp [execOp, go_sem, t53, hts, hhz, kc]
          exact ⟨hC, Below.refl _ _, rfl⟩
        · intro v W ρ y hC kc kf ks ki ky ku kd
          have dg : v 25 = .bool false := kd _ (Array.mem_of_getElem? (i := 0) rfl) rfl
          have hy := ky 25 52 false (by decide) rfl dg
          rw [if_pos (by simp [Region.wanted, hy])]
          have t5 : ρ (.tmp 5) = .string h := ki 5 (by decide)
          simp [execOp, go_sem, t5]
          exact ⟨hC, Below.refl _ _, rfl⟩
        · intro v W ρ y hC kc kf ks ki ky ku kd
          have dg : v 25 = .bool false := kd _ (Array.mem_of_getElem? (i := 1) rfl) rfl
          have hy := ky 25 52 false (by decide) rfl dg
          rw [if_pos (by simp [Region.wanted, hy])]
          have d28 : v 28 = .string h := kd _ (Array.mem_of_getElem? (i := 0) rfl) rfl
          have t55 : ρ (.tmp 55) = v 28 := ks 28 55 (by decide) rfl
          rw [d28] at t55
          simp [execOp, go_sem, t55, hts, hhz, kc]
          exact ⟨hC, Below.refl _ _, rfl⟩
        · intro v W ρ y hC kc kf ks ki ky ku kd
          have dg : v 25 = .bool false := kd _ (Array.mem_of_getElem? (i := 2) rfl) rfl
          have hy := ky 25 52 false (by decide) rfl dg
          rw [if_pos (by simp [Region.wanted, hy])]
          have d27 : v 27 = .string (t.extract 4 10) := kd _ (Array.mem_of_getElem? (i := 0) rfl) rfl
          have t54 : ρ (.tmp 54) = v 27 := ks 27 54 (by decide) rfl
          rw [d27] at t54
          have d29 : v 29 = .string (h.extract 4 10) := kd _ (Array.mem_of_getElem? (i := 1) rfl) rfl
          have t56 : ρ (.tmp 56) = v 29 := ks 29 56 (by decide) rfl
          rw [d29] at t56
          simp [execOp, go_sem, t54, t56, he2]
          exact ⟨hC, Below.refl _ _, rfl⟩
        · refine stepW_of_u ⟨rfl, fun v W ρ hC kc kf ks ki kd => ?_⟩
          have d25 : v 25 = .bool false := kd _ (Array.mem_of_getElem? (i := 0) rfl) rfl
          have t52 : ρ (.tmp 52) = v 25 := ks 25 52 (by decide) rfl
          rw [d25] at t52
          have d30 : v 30 = .bool false := kd _ (Array.mem_of_getElem? (i := 1) rfl) rfl
          have t57 : ρ (.tmp 57) = v 30 := ks 30 57 (by decide) rfl
          rw [d30] at t57
          simp [execOp, go_sem, t52, t57, kc]
          exact ⟨hC, Below.refl _ _, rfl⟩
      case fin =>
        intro v W hC hall
        have hL0 : v 31 = .bool false := hall 31 (by decide)
        simp [upto, Act.put]
        rw [hL0]
        clear hall hL0
        have hE3 : okI t x = true := by rw [hOK.out, hrx, hp1, hk3, hb1, he1, he2]; rfl
        have e1 : Hid (innerC p = 0) := by rw [hCx.out, if_neg (by rw [hE3]; decide)]; rfl
        have e2 : Hid (innerP p = x) := by rw [hPx.out, if_pos e1.out]; rfl
        have hGW := blk_later hG5 hC
        have hLW := hidS (hL5.out.trans (hC.mono hL5.out.size))
        have hPW := HP.out.later hC
        clear hE3 hOK hCx hPx hG5 hL5 HP H5 hC c0 c1 c2 c3 c4 c5 c6 c7 c8 c9
        have g0 := blk_cell hGW
        have gf := blk_free hGW
        obtain ⟨c0, c1, c2, c3, c4, c5, c6, c7, c8, c9⟩ := hPW
        go_wp2
        refine bodyPost_ret (v := .agg #[.int .i64 x.src, .int .i64 x.dst, .int .i64 x.proto, .int .i64 x.a, .int .i64 x.b, .int .i64 x.kind, .int .i64 x.flags, .int .i64 x.seq, .int .i64 x.ack, .string x.body, .int .i64 (0)]) (by simp [results, Tryd.results18, go_sem, g0]) rfl ⟨by rw [e1.out, e2.out], ?_⟩
        iterate 11 (refine below_at ?_ (Nat.le_succ _))
        exact hLW.out
end Go.Proofs.YtokjhfgbnpdfnaaDoor
