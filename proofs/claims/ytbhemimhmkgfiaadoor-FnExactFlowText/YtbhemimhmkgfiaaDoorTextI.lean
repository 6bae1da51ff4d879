/- Proved here: impl.TupleText answers a tuple's text (else the empty text); all old memory stays (condition: the library's table of the powers of ten holds them). -/
import Derived.Test.YtbhemimhmkgfiaaDoorTextMath
import Derived.Test.YtbhemimhmkgfiaaDoorTRightI
import Derived.Test.YtbhemimhmkgfiaaDoorAddrI
import Derived.Test.YtbhemimhmkgfiaaDoorJoinAny
import Derived.Test.YtbhemimhmkgfiaaDoorBlk
import Derived.Deep.Cut
namespace Go.Proofs.YtbhemimhmkgfiaaDoor
open Go.ChangeShapes Go.WideShapes Go.ChangeAt Go.RowKit
set_option linter.unusedVariables false
set_option maxRecDepth 100000
set_option linter.unusedSimpArgs false

theorem formatW (m : Nat) (x : Int) (w : World) (hx : x = (m : Int)) (hm : m ≤ 65535) (htab : Lib.TabIs Tryd.prog w "internal/strconv.uint64pow10" .u64 Lib.pow10Tab) :
    Calls Tryd.prog 70 #[.int .i64 x, .int .i64 10] w fun e w' => e = .returned (.string (decT m)) ∧ Below w.heap.size w w' := by
  subst hx
  refine (Tryd.strconv_FormatInt_10 (m : Int) (by omega) (by omega) w htab).mono ?_
  rintro e w' ⟨rfl, k, os, rfl⟩
  refine ⟨?_, grow_bel w k os⟩
  have h1 : Lib.decDigits m = decL m := by
    unfold decL
    by_cases h0 : m = 0
    · subst h0; rw [if_pos rfl, Lib.decDigits_one (by omega)]; rfl
    · rw [if_neg h0]; exact (dec_all 20 m h0 (by omega)).symm
  have : Lib.itoa (m : Int) = decL m := by
    unfold Lib.itoa
    rw [if_neg (by omega), Int.toNat_natCast, h1]
  rw [this]; rfl
theorem protoName_tcp (w : World) (p : Int) (h : p = 6) : Calls Tryd.prog 60 #[.int .i64 p] w fun e w' => e = .returned (.string ⟨#[116, 99, 112]⟩) ∧ w' = w := by
  subst h
  go_enter Tryd.func60, Tryd.ntmps60
  go_wp2
  go_ret
  exact ⟨rfl, rfl⟩
theorem protoName_udp (w : World) (p : Int) (h : p = 17) : Calls Tryd.prog 60 #[.int .i64 p] w fun e w' => e = .returned (.string ⟨#[117, 100, 112]⟩) ∧ w' = w := by
  subst h
  go_enter Tryd.func60, Tryd.ntmps60
  go_wp2
  go_ret
  exact ⟨rfl, rfl⟩
theorem protoName_ping (w : World) (p : Int) (h : p = 1) : Calls Tryd.prog 60 #[.int .i64 p] w fun e w' => e = .returned (.string ⟨#[112, 105, 110, 103]⟩) ∧ w' = w := by
  subst h
  go_enter Tryd.func60, Tryd.ntmps60
  go_wp2
  go_ret
  exact ⟨rfl, rfl⟩
theorem right_proto {t : Tp} (h : rightT t = true) : t.proto = 1 ∨ t.proto = 6 ∨ t.proto = 17 := by
  unfold rightT at h; by_cases h1 : t.proto = 1 <;> simp [h1] at h <;> omega
theorem protoName_any (t : Tp) (hr : rightT t = true) (w : World) : Calls Tryd.prog 60 #[.int .i64 t.proto] w fun e w' => e = .returned (.string (nameL t)) ∧ Below w.heap.size w w' := by
  unfold nameL
  rcases right_proto hr with h | h | h
  · rw [if_neg (by omega), if_pos h]; exact (protoName_ping w t.proto h).mono (fun e w' k => ⟨k.1, by rw [k.2]; exact Below.refl _ _⟩)
  · rw [if_neg (by omega), if_neg (by omega)]; exact (protoName_tcp w t.proto h).mono (fun e w' k => ⟨k.1, by rw [k.2]; exact Below.refl _ _⟩)
  · rw [if_pos h]; exact (protoName_udp w t.proto h).mono (fun e w' k => ⟨k.1, by rw [k.2]; exact Below.refl _ _⟩)
theorem echoMark_any (t : Tp) (w : World) : Calls Tryd.prog 62 #[.agg #[.int .i64 t.proto, .int .i64 t.src, .int .i64 t.sport, .int .i64 t.dst, .int .i64 t.dport, .int .i64 t.kind]] w fun e w' => e = .returned (.string (markL t)) ∧ Below w.heap.size w w' := by
  have HB := fun o => hidS ((Below.refl w.heap.size w).alloc (Nat.le_refl _) o)
  unfold markL
  by_cases h1 : t.proto = 1
  · have h1' : (t.proto != 1) = false := by simp [h1]
    rw [if_pos h1]
    by_cases h8 : t.kind = 8
    · have h8' : (t.kind == 8) = true := beq_iff_eq.2 h8
      rw [if_pos h8]
      clear h1 h8
      go_enter Tryd.func62, Tryd.ntmps62
      go_wp2
      go_ret
      exact ⟨rfl, (HB _).out⟩
    · have h8' : (t.kind == 8) = false := beq_eq_false_iff_ne.2 h8
      rw [if_neg h8]
      clear h1 h8
      go_enter Tryd.func62, Tryd.ntmps62
      go_wp2
      go_ret
      exact ⟨rfl, (HB _).out⟩
  · have h1' : (t.proto != 1) = true := by simp [h1]
    rw [if_neg h1]
    clear h1
    go_enter Tryd.func62, Tryd.ntmps62
    go_wp2
    go_ret
    exact ⟨rfl, (HB _).out⟩

set_option maxHeartbeats 1000000 in
theorem endText_any (a x : Int) (m : Nat) (w : World) (hx : x = (m : Int)) (hm : m ≤ 65535) (htab : Lib.TabIs Tryd.prog w "internal/strconv.uint64pow10" .u64 Lib.pow10Tab) :
    Calls Tryd.prog 61 #[.int .i64 a, .int .i64 x] w fun e w' => e = .returned (.string (catT [addrAns a, ⟨#[58]⟩, decT m])) ∧ Below w.heap.size w w' := by
  have HA := hidS (fun W (h : Below w.heap.size w W) => addrI_any a W (tab_later htab h))
  have HF := hidS (fun W (h : Below w.heap.size w W) => formatW m x W hx hm (tab_later htab h))
  have z1 := addrAns_size a
  have z2 := decT_size m
  clear hx htab
  generalize addrAns a = A at *
  generalize decT m = D at *
  go_enter Tryd.func61, Tryd.ntmps61
  go_wp2_with fail
  refine (HA.out _ (Below.refl _ _)).mono ?_
  rintro _ w1 ⟨rfl, hb1⟩
  go_wp2_with fail
  refine (HF.out _ hb1).mono ?_
  rintro _ w2 ⟨rfl, hb2⟩
  have hL2 := hidS (hb1.trans (hb2.mono hb1.size))
  have hv := vals_at (W := w2) [.string A, .string ⟨#[58]⟩, .string D] 9
  have HJ := hidS (joinTexts_any w2.heap.size [A, ⟨#[58]⟩, D] _ (ValsAt.strs (ts := [A, ⟨#[58]⟩, D]) hv) hv.1 (by simp) (by simp; exact ⟨by omega, by decide, by omega⟩))
  have hL3 := hidS (hL2.out.alloc hL2.out.size (.cells #[.string A, .string ⟨#[58]⟩, .string D] 9))
  clear hb1 hb2 hL2 hv HA HF
  go_wp2_with fail
  refine HJ.out.mono ?_
  rintro _ w3 ⟨rfl, hb3⟩
  have hL4 := hidS (hL3.out.trans (hb3.mono hL3.out.size))
  clear hb3 hL3 HJ
  go_wp2_with fail
  go_ret
  exact ⟨rfl, hL4.out⟩
theorem cat_size (ts : List ByteArray) : (catT ts).size = (catL ts).length := by show (catL ts).toArray.size = _; simp
theorem tup_cat (t : Tp) : catT [nameL t, ⟨#[32]⟩, catT [addrAns t.src, ⟨#[58]⟩, decT t.sport.toNat], ⟨#[62]⟩, catT [addrAns t.dst, ⟨#[58]⟩, decT t.dport.toNat], markL t] = tupT t := by
  unfold tupT
  rw [nameS_name]
  apply ByteArray.ext
  apply Array.toList_inj.1
  simp [catT, catL]

set_option maxHeartbeats 4000000 in
theorem implText_yes (t : Tp) (w : World) (hr : rightT t = true) (htab : Lib.TabIs Tryd.prog w "internal/strconv.uint64pow10" .u64 Lib.pow10Tab) :
    Calls Tryd.prog 48 #[.agg #[.int .i64 t.proto, .int .i64 t.src, .int .i64 t.sport, .int .i64 t.dst, .int .i64 t.dport, .int .i64 t.kind]] w fun e w' => e = .returned (.string (tupT t)) ∧ Below w.heap.size w w' := by
  obtain ⟨⟨p1, p2⟩, q1, q2⟩ := right_ports hr
  have HR := hidS (fun W => implTRight_any t W)
  have HN := hidS (fun W => protoName_any t hr W)
  have HM := hidS (fun W => echoMark_any t W)
  have HE1 := hidS (fun W (h : Below w.heap.size w W) => endText_any t.src t.sport t.sport.toNat W (by omega) (by omega) (tab_later htab h))
  have HE2 := hidS (fun W (h : Below w.heap.size w W) => endText_any t.dst t.dport t.dport.toNat W (by omega) (by omega) (tab_later htab h))
  have z1 : (catT [addrAns t.src, ⟨#[58]⟩, decT t.sport.toNat]).size ≤ 200 := by
    have h1 := addrAns_size t.src
    have h2 := decT_size t.sport.toNat
    rw [cat_size]; simp [catL]; omega
  have z2 : (catT [addrAns t.dst, ⟨#[58]⟩, decT t.dport.toNat]).size ≤ 200 := by
    have h1 := addrAns_size t.dst
    have h2 := decT_size t.dport.toNat
    rw [cat_size]; simp [catL]; omega
  have z3 := nameL_size t
  have z4 := markL_size t
  rw [← tup_cat]
  clear p1 p2 q1 q2 htab
  generalize catT [addrAns t.src, ⟨#[58]⟩, decT t.sport.toNat] = A at *
  generalize catT [addrAns t.dst, ⟨#[58]⟩, decT t.dport.toNat] = D at *
  generalize nameL t = N at *
  generalize markL t = M at *
  have hGP0 : Hid ((w.alloc (.cells #[.int .i64 t.proto, .int .i64 t.src, .int .i64 t.sport, .int .i64 t.dst, .int .i64 t.dport, .int .i64 t.kind] 33)).heap[w.heap.size]? = some (.cells #[.int .i64 t.proto, .int .i64 t.src, .int .i64 t.sport, .int .i64 t.dst, .int .i64 t.dport, .int .i64 t.kind] 33)) := by
    show _ = _
    have := heap_newG w (.cells #[.int .i64 t.proto, .int .i64 t.src, .int .i64 t.sport, .int .i64 t.dst, .int .i64 t.dport, .int .i64 t.kind] 33)
    simpa using this
  have hL0 := hidS ((Below.refl w.heap.size w).alloc (Nat.le_refl _) (.cells #[.int .i64 t.proto, .int .i64 t.src, .int .i64 t.sport, .int .i64 t.dst, .int .i64 t.dport, .int .i64 t.kind] 33))
  go_enter Tryd.func48, Tryd.ntmps48
  go_wp2_with fail
  refine (HR.out _).mono ?_
  rintro _ w1 ⟨rfl, hb1⟩
  have hGP1 := hidS (blk_later hGP0.out hb1)
  have hL1 := hidS (hL0.out.trans (hb1.mono hL0.out.size))
  clear hb1 hL0 hGP0
  rw [hr]
  go_wp2_with fail
  refine grow_kinds 18 [.is (.pointer (some ⟨w.heap.size, 0, none⟩)), .is (.int .i64 t.proto), .is (.string N), .is (.pointer (some ⟨w.heap.size, 1, none⟩)), .is (.int .i64 t.src), .is (.pointer (some ⟨w.heap.size, 2, none⟩)), .is (.int .i64 t.sport), .is (.string A), .is (.pointer (some ⟨w.heap.size, 3, none⟩)), .is (.int .i64 t.dst), .is (.pointer (some ⟨w.heap.size, 4, none⟩)), .is (.int .i64 t.dport), .is (.string D), .is (.agg #[.int .i64 t.proto, .int .i64 t.src, .int .i64 t.sport, .int .i64 t.dst, .int .i64 t.dport, .int .i64 t.kind]), .is (.string M), .vals [.string N, .string ⟨#[32]⟩, .string A, .string ⟨#[62]⟩, .string D, .string M], .is (.string (catT [N, ⟨#[32]⟩, A, ⟨#[62]⟩, D, M])), .is (.string (catT [N, ⟨#[32]⟩, A, ⟨#[62]⟩, D, M]))] rfl (by kernel_rfl) (by kernel_rfl) ?stepsV ?finV
  case stepsV =>
    refine ⟨?_, ?_, ?_, ?_, ?_, ?_, ?_, ?_, ?_, ?_, ?_, ?_, ?_, ?_, ?_, ?_, ?_, ?_, trivial⟩
    · refine ⟨rfl, fun v W ρ hC kc kf ks ki kd => ?_⟩
      have t1 : ρ (.tmp 1) = .pointer (some ⟨w.heap.size, 0, none⟩) := ki 1 (by decide)
      simp [execOp, go_sem, t1]
      exact ⟨hC, Below.refl _ _, rfl⟩
    · refine ⟨rfl, fun v W ρ hC kc kf ks ki kd => ?_⟩
      have d0 : v 0 = .pointer (some ⟨w.heap.size, 0, none⟩) := kd _ (Array.mem_of_getElem? (i := 0) rfl) rfl
      have t6 : ρ (.tmp 6) = v 0 := ks 0 6 (by decide) rfl
      rw [d0] at t6
      have c0 := blk_cell (blk_later hGP1.out hC) 0
      simp at c0
      simp [execOp, go_sem, t6, c0]
      exact ⟨hC, Below.refl _ _, rfl⟩
    · refine ⟨rfl, fun v W ρ hC kc kf ks ki kd => ?_⟩
      have d1 : v 1 = .int .i64 t.proto := kd _ (Array.mem_of_getElem? (i := 0) rfl) rfl
      have t7 : ρ (.tmp 7) = v 1 := ks 1 7 (by decide) rfl
      rw [d1] at t7
      simp [execOp, go_sem, t7, kf]
      exact Calls.mono (HN.out _) (fun e x h => ⟨_, h.1, hC.trans (h.2.mono hC.size), h.2, rfl⟩)
    · refine ⟨rfl, fun v W ρ hC kc kf ks ki kd => ?_⟩
      have t1 : ρ (.tmp 1) = .pointer (some ⟨w.heap.size, 0, none⟩) := ki 1 (by decide)
      simp [execOp, go_sem, t1]
      exact ⟨hC, Below.refl _ _, rfl⟩
    · refine ⟨rfl, fun v W ρ hC kc kf ks ki kd => ?_⟩
      have d3 : v 3 = .pointer (some ⟨w.heap.size, 1, none⟩) := kd _ (Array.mem_of_getElem? (i := 0) rfl) rfl
      have t9 : ρ (.tmp 9) = v 3 := ks 3 9 (by decide) rfl
      rw [d3] at t9
      have c0 := blk_cell (blk_later hGP1.out hC) 1
      simp at c0
      simp [execOp, go_sem, t9, c0]
      exact ⟨hC, Below.refl _ _, rfl⟩
    · refine ⟨rfl, fun v W ρ hC kc kf ks ki kd => ?_⟩
      have t1 : ρ (.tmp 1) = .pointer (some ⟨w.heap.size, 0, none⟩) := ki 1 (by decide)
      simp [execOp, go_sem, t1]
      exact ⟨hC, Below.refl _ _, rfl⟩
    · refine ⟨rfl, fun v W ρ hC kc kf ks ki kd => ?_⟩
      have d5 : v 5 = .pointer (some ⟨w.heap.size, 2, none⟩) := kd _ (Array.mem_of_getElem? (i := 0) rfl) rfl
      have t11 : ρ (.tmp 11) = v 5 := ks 5 11 (by decide) rfl
      rw [d5] at t11
      have c0 := blk_cell (blk_later hGP1.out hC) 2
      simp at c0
      simp [execOp, go_sem, t11, c0]
      exact ⟨hC, Below.refl _ _, rfl⟩
    · refine ⟨rfl, fun v W ρ hC kc kf ks ki kd => ?_⟩
      have d4 : v 4 = .int .i64 t.src := kd _ (Array.mem_of_getElem? (i := 0) rfl) rfl
      have t10 : ρ (.tmp 10) = v 4 := ks 4 10 (by decide) rfl
      rw [d4] at t10
      have d6 : v 6 = .int .i64 t.sport := kd _ (Array.mem_of_getElem? (i := 1) rfl) rfl
      have t12 : ρ (.tmp 12) = v 6 := ks 6 12 (by decide) rfl
      rw [d6] at t12
      simp [execOp, go_sem, t10, t12, kf]
      exact Calls.mono (HE1.out _ (hL1.out.trans (hC.mono hL1.out.size))) (fun e x h => ⟨_, h.1, hC.trans (h.2.mono hC.size), h.2, rfl⟩)
    · refine ⟨rfl, fun v W ρ hC kc kf ks ki kd => ?_⟩
      have t1 : ρ (.tmp 1) = .pointer (some ⟨w.heap.size, 0, none⟩) := ki 1 (by decide)
      simp [execOp, go_sem, t1]
      exact ⟨hC, Below.refl _ _, rfl⟩
    · refine ⟨rfl, fun v W ρ hC kc kf ks ki kd => ?_⟩
      have d8 : v 8 = .pointer (some ⟨w.heap.size, 3, none⟩) := kd _ (Array.mem_of_getElem? (i := 0) rfl) rfl
      have t14 : ρ (.tmp 14) = v 8 := ks 8 14 (by decide) rfl
      rw [d8] at t14
      have c0 := blk_cell (blk_later hGP1.out hC) 3
      simp at c0
      simp [execOp, go_sem, t14, c0]
      exact ⟨hC, Below.refl _ _, rfl⟩
    · refine ⟨rfl, fun v W ρ hC kc kf ks ki kd => ?_⟩
      have t1 : ρ (.tmp 1) = .pointer (some ⟨w.heap.size, 0, none⟩) := ki 1 (by decide)
      simp [execOp, go_sem, t1]
      exact ⟨hC, Below.refl _ _, rfl⟩
    · refine ⟨rfl, fun v W ρ hC kc kf ks ki kd => ?_⟩
      have d10 : v 10 = .pointer (some ⟨w.heap.size, 4, none⟩) := kd _ (Array.mem_of_getElem? (i := 0) rfl) rfl
      have t16 : ρ (.tmp 16) = v 10 := ks 10 16 (by decide) rfl
      rw [d10] at t16
      have c0 := blk_cell (blk_later hGP1.out hC) 4
      simp at c0
      simp [execOp, go_sem, t16, c0]
      exact ⟨hC, Below.refl _ _, rfl⟩
    · refine ⟨rfl, fun v W ρ hC kc kf ks ki kd => ?_⟩
      have d9 : v 9 = .int .i64 t.dst := kd _ (Array.mem_of_getElem? (i := 0) rfl) rfl
      have t15 : ρ (.tmp 15) = v 9 := ks 9 15 (by decide) rfl
      rw [d9] at t15
      have d11 : v 11 = .int .i64 t.dport := kd _ (Array.mem_of_getElem? (i := 1) rfl) rfl
      have t17 : ρ (.tmp 17) = v 11 := ks 11 17 (by decide) rfl
      rw [d11] at t17
      simp [execOp, go_sem, t15, t17, kf]
      exact Calls.mono (HE2.out _ (hL1.out.trans (hC.mono hL1.out.size))) (fun e x h => ⟨_, h.1, hC.trans (h.2.mono hC.size), h.2, rfl⟩)
    · refine ⟨rfl, fun v W ρ hC kc kf ks ki kd => ?_⟩
      have t1 : ρ (.tmp 1) = .pointer (some ⟨w.heap.size, 0, none⟩) := ki 1 (by decide)
      have hg := blk_later hGP1.out hC
      have c0 := blk_cell hg 0
      have c1 := blk_cell hg 1
      have c2 := blk_cell hg 2
      have c3 := blk_cell hg 3
      have c4 := blk_cell hg 4
      have c5 := blk_cell hg 5
      simp at c0 c1 c2 c3 c4 c5
      simp [execOp, go_sem, t1, c0, c1, c2, c3, c4, c5]
      exact ⟨hC, Below.refl _ _, rfl⟩
    · refine ⟨rfl, fun v W ρ hC kc kf ks ki kd => ?_⟩
      have d13 : v 13 = .agg #[.int .i64 t.proto, .int .i64 t.src, .int .i64 t.sport, .int .i64 t.dst, .int .i64 t.dport, .int .i64 t.kind] := kd _ (Array.mem_of_getElem? (i := 0) rfl) rfl
      have t19 : ρ (.tmp 19) = v 13 := ks 13 19 (by decide) rfl
      rw [d13] at t19
      simp [execOp, go_sem, t19, kf]
      exact Calls.mono (HM.out _) (fun e x h => ⟨_, h.1, hC.trans (h.2.mono hC.size), h.2, rfl⟩)
    · refine ⟨rfl, fun v W ρ hC kc kf ks ki kd => ?_⟩
      have d2 : v 2 = .string N := kd _ (Array.mem_of_getElem? (i := 0) rfl) rfl
      have t8 : ρ (.tmp 8) = v 2 := ks 2 8 (by decide) rfl
      rw [d2] at t8
      have d7 : v 7 = .string A := kd _ (Array.mem_of_getElem? (i := 1) rfl) rfl
      have t13 : ρ (.tmp 13) = v 7 := ks 7 13 (by decide) rfl
      rw [d7] at t13
      have d12 : v 12 = .string D := kd _ (Array.mem_of_getElem? (i := 2) rfl) rfl
      have t18 : ρ (.tmp 18) = v 12 := ks 12 18 (by decide) rfl
      rw [d12] at t18
      have d14 : v 14 = .string M := kd _ (Array.mem_of_getElem? (i := 3) rfl) rfl
      have t20 : ρ (.tmp 20) = v 14 := ks 14 20 (by decide) rfl
      rw [d14] at t20
      simp [execOp, go_sem, t8, t13, t18, t20, kc]
      exact ⟨hC.alloc hC.size _, (Below.refl _ _).alloc (Nat.le_refl _) _, W.heap.size, rfl, vals_at [.string N, .string ⟨#[32]⟩, .string A, .string ⟨#[62]⟩, .string D, .string M] _⟩
    · refine ⟨rfl, fun v W ρ hC kc kf ks ki kd => ?_⟩
      obtain ⟨B0, e0, hB0⟩ : ∃ B, v 15 = .slice (some ⟨B, 0, none⟩) 6 6 ∧ ValsAt B [.string N, .string ⟨#[32]⟩, .string A, .string ⟨#[62]⟩, .string D, .string M] W := kd _ (Array.mem_of_getElem? (i := 0) rfl) rfl
      have t21 : ρ (.tmp 21) = v 15 := ks 15 21 (by decide) rfl
      rw [e0] at t21
      simp [execOp, go_sem, t21, kf]
      exact Calls.mono (joinTexts_any B0 [N, ⟨#[32]⟩, A, ⟨#[62]⟩, D, M] _ (ValsAt.strs (ts := [N, ⟨#[32]⟩, A, ⟨#[62]⟩, D, M]) hB0) hB0.1 (by simp) (by simp; exact ⟨by omega, by decide, by omega, by decide, by omega, by omega⟩)) (fun e x h => ⟨_, h.1, hC.trans (h.2.mono hC.size), h.2, rfl⟩)
    · refine ⟨rfl, fun v W ρ hC kc kf ks ki kd => ?_⟩
      have d16 : v 16 = .string (catT [N, ⟨#[32]⟩, A, ⟨#[62]⟩, D, M]) := kd _ (Array.mem_of_getElem? (i := 0) rfl) rfl
      have t22 : ρ (.tmp 22) = v 16 := ks 16 22 (by decide) rfl
      rw [d16] at t22
      simp [execOp, go_sem, t22]
      exact ⟨hC, Below.refl _ _, rfl⟩
  intro vV w2 hb2 hall
  have hvV : vV 17 = .string (catT [N, ⟨#[32]⟩, A, ⟨#[62]⟩, D, M]) := hall 17 (by decide)
  simp [upto, Act.put]
  rw [hvV]
  clear hall hvV
  have hGP2 := hidS (blk_later hGP1.out hb2)
  have hL2 := hidS (hL1.out.trans (hb2.mono hL1.out.size))
  clear hb2 hL1 hGP1
  go_wp2_with fail
  go_ret
  exact ⟨rfl, hL2.out⟩

theorem implText_any (t : Tp) (w : World) (htab : Lib.TabIs Tryd.prog w "internal/strconv.uint64pow10" .u64 Lib.pow10Tab) :
    Calls Tryd.prog 48 #[.agg #[.int .i64 t.proto, .int .i64 t.src, .int .i64 t.sport, .int .i64 t.dst, .int .i64 t.dport, .int .i64 t.kind]] w fun e w' => e = .returned (.string (textAns t)) ∧ Below w.heap.size w w' := by
  have HR := hidS (fun W => implTRight_any t W)
  cases hr : rightT t
  · have e : textAns t = ⟨#[]⟩ := if_neg (by rw [hr]; simp)
    rw [e]
    clear e
    have hGP0 : Hid ((w.alloc (.cells #[.int .i64 t.proto, .int .i64 t.src, .int .i64 t.sport, .int .i64 t.dst, .int .i64 t.dport, .int .i64 t.kind] 33)).heap[w.heap.size]? = some (.cells #[.int .i64 t.proto, .int .i64 t.src, .int .i64 t.sport, .int .i64 t.dst, .int .i64 t.dport, .int .i64 t.kind] 33)) := by
      show _ = _
      have := heap_newG w (.cells #[.int .i64 t.proto, .int .i64 t.src, .int .i64 t.sport, .int .i64 t.dst, .int .i64 t.dport, .int .i64 t.kind] 33)
      simpa using this
    have hL0 := hidS ((Below.refl w.heap.size w).alloc (Nat.le_refl _) (.cells #[.int .i64 t.proto, .int .i64 t.src, .int .i64 t.sport, .int .i64 t.dst, .int .i64 t.dport, .int .i64 t.kind] 33))
    go_enter Tryd.func48, Tryd.ntmps48
    go_wp2_with fail
    refine (HR.out _).mono ?_
    rintro _ w1 ⟨rfl, hb1⟩
    have hGP1 := hidS (blk_later hGP0.out hb1)
    have hL1 := hidS (hL0.out.trans (hb1.mono hL0.out.size))
    clear hb1 hL0 hGP0
    rw [hr]
    go_wp2_with fail
    go_ret
    exact ⟨rfl, hL1.out⟩
  · rw [show textAns t = tupT t from if_pos hr]
    exact implText_yes t w hr htab
end Go.Proofs.YtbhemimhmkgfiaaDoor
