/- Proved here: laws.FnPacket answers true, whatever is drawn; all old memory stays (condition: the bytes that are drawn from can be read, at most 2^20 each; the sentinels and the library's tables lie where they are laid). -/
import Derived.Test.YtedknnkdnccfmaaGreatDoorAll18
import Derived.Test.YtedknnkdnccfmaaGreatDoorAll30
import Derived.Test.YtedknnkdnccfmaaGreatDoorAll31
import Derived.Test.YtedknnkdnccfmaaGreatDoorAll38
import Derived.Test.YtedknnkdnccfmaaGreatDoorAll42
import Derived.Test.YtedknnkdnccfmaaGreatDoorAll43
import Derived.Test.YtedknnkdnccfmaaGreatDoorAll29
import Derived.Test.YtedknnkdnccfmaaGreatDoorAll26
import Derived.Test.YtedknnkdnccfmaaGreatDoorAll33
namespace Go.Proofs.YtedknnkdnccfmaaGreatDoor
open Go.ChangeShapes Go.WideShapes Go.ChangeAt Go.RowKit
set_option linter.unusedVariables false
set_option linter.unusedSimpArgs false
set_option maxRecDepth 100000

theorem small_141 {n : Nat} (h : n ≤ 141) : n ≤ maxLen := by unfold maxLen; omega
theorem readP_body (s : ByteArray) (h : s.size ≤ 141) : (readP s).body.size ≤ 141 := by
  unfold readP
  split
  · show 0 ≤ 141; omega
  · unfold pkOf
    split
    · exact Nat.le_trans (readPk_body s) h
    · show 0 ≤ 141; omega
theorem str_no : ((⟨#[]⟩ : ByteArray).toList != (⟨#[]⟩ : ByteArray).toList) = false := by simp
set_option maxHeartbeats 4000000 in
theorem fnPacket_in (a0 : Option Addr) (len0 cap0 : Nat) (a1 : Option Addr) (len1 cap1 : Nat) (w : World) (h0 : RowAt w.heap.size a0 len0 w) (h1 : RowAt w.heap.size a1 len1 w) (hl0 : len0 ≤ 1048576) (hl1 : len1 ≤ 1048576) (hX : (∃ aF aS aY aM, Sent aF aS aY aM w) ∧ LibOk w) :
    Calls Tryz.prog 3 #[.slice a0 len0 cap0, .slice a1 len1 cap1] w fun e w' => e = .returned (.bool true) ∧ Below w.heap.size w w' := by
  obtain ⟨⟨aF, aS, aY, aM, hS⟩, hK⟩ := hX
  have g0 : ¬ ((1048576 : Int) < (len0 : Int)) := by omega
  have g1 : ¬ ((1048576 : Int) < (len1 : Int)) := by omega
  have HS := hidS hS
  have HK := hidS hK
  have H0 := hidS h0
  have H1 := hidS h1
  clear hS h0 h1 hK
  go_enter Tryz.func3, Tryz.ntmps3
  go_wp2_with fail
  refine (drawPacketBytes_any a0 len0 cap0 _ H0.out hl0).mono ?_
  rintro _ w1 ⟨p, rfl, hp, hb1⟩
  have HPs := hidS (small_141 (Nat.le_trans hp (by omega)))
  have hL2 := hidS (hb1.alloc hb1.size (.cells #[.int .i64 p.src, .int .i64 p.dst, .int .i64 p.proto, .int .i64 p.a, .int .i64 p.b, .int .i64 p.kind, .int .i64 p.flags, .int .i64 p.seq, .int .i64 p.ack, .string p.body] 24))
  have hP2 := hidS (heap_newG w1 (.cells #[.int .i64 p.src, .int .i64 p.dst, .int .i64 p.proto, .int .i64 p.a, .int .i64 p.b, .int .i64 p.kind, .int .i64 p.flags, .int .i64 p.seq, .int .i64 p.ack, .string p.body] 24))
  clear hb1 hp
  go_upto_region 4 with fail
  generalize w1.alloc (.cells #[.int .i64 p.src, .int .i64 p.dst, .int .i64 p.proto, .int .i64 p.a, .int .i64 p.b, .int .i64 p.kind, .int .i64 p.flags, .int .i64 p.seq, .int .i64 p.ack, .string p.body] 24) = w2 at hL2 hP2 ⊢
  generalize w1.heap.size = gp at *
  have hl9 := hP2.out
  have x0 := blk_cell hl9 0
  have x1 := blk_cell hl9 1
  have x2 := blk_cell hl9 2
  have x3 := blk_cell hl9 3
  have x4 := blk_cell hl9 4
  have x5 := blk_cell hl9 5
  have x6 := blk_cell hl9 6
  have x7 := blk_cell hl9 7
  have x8 := blk_cell hl9 8
  have x9 := blk_cell hl9 9
  simp at x0 x1 x2 x3 x4 x5 x6 x7 x8 x9
  clear hl9
  have HBi := hidS (fun W => implBytes_any p W HPs.out)
  have HBs := hidS (fun W => specBytes_any p W HPs.out)
  have HRi := hidS (fun W => implRight_any p W HPs.out)
  have HRs := hidS (fun W => specRight_any p W HPs.out)
  have HTn := hidS (fun h => pk_no (p := p) h)
  have HTy := hidS (fun h => pk_yes (p := p) h)
  have HTs := hidS (bytesAns_small p)
  generalize bytesAns p = T at *
  go_wp2_with fail
  refine (HBi.out w2).mono ?_
  rintro _ w3 ⟨rfl, hb3⟩
  clear x0 x1 x2 x3 x4 x5 x6 x7 x8 x9
  have hL3 := hidS (hL2.out.trans (hb3.mono hL2.out.size))
  have hP3 := hidS (blk_later hP2.out hb3)
  clear hb3 hL2 hP2 HBi
  go_wp2_with fail
  refine (drawPacketRead_any a1 len1 cap1 w3 (H1.out.later hL3.out) hl1).mono ?_
  rintro _ w4 ⟨u, rfl, hu, hb4⟩
  have HUs := hidS hu
  have hL4 := hidS (hL3.out.trans (hb4.mono hL3.out.size))
  have hP4 := hidS (blk_later hP3.out hb4)
  clear hb4 hL3 hP3 hu
  have HXi := hidS (fun W (h : Below w.heap.size w W) => implRead_any u W (small_141 HUs.out) (HS.out.later h))
  have HXs := hidS (fun W => specRead_any u W (small_141 HUs.out))
  have HXt := hidS (fun h => read_told (s := u) h)
  have HXb := hidS (fun W => implBytes_any (readP u) W (small_141 (readP_body u HUs.out)))
  generalize readP u = X at *
  generalize readC u = C at *
  go_wp2_with fail
  refine (HXi.out w4 hL4.out).mono ?_
  rintro _ w5 ⟨rfl, hb5⟩
  have hL5 := hidS (hL4.out.trans (hb5.mono hL4.out.size))
  have hL6 := hidS (hL5.out.alloc hL5.out.size (.cells #[.int .i64 X.src, .int .i64 X.dst, .int .i64 X.proto, .int .i64 X.a, .int .i64 X.b, .int .i64 X.kind, .int .i64 X.flags, .int .i64 X.seq, .int .i64 X.ack, .string X.body, .int .i64 C] 29))
  have hP6 := hidS (blk_alloc (blk_later hP4.out hb5) (.cells #[.int .i64 X.src, .int .i64 X.dst, .int .i64 X.proto, .int .i64 X.a, .int .i64 X.b, .int .i64 X.kind, .int .i64 X.flags, .int .i64 X.seq, .int .i64 X.ack, .string X.body, .int .i64 C] 29))
  have hX6 := hidS (heap_newG w5 (.cells #[.int .i64 X.src, .int .i64 X.dst, .int .i64 X.proto, .int .i64 X.a, .int .i64 X.b, .int .i64 X.kind, .int .i64 X.flags, .int .i64 X.seq, .int .i64 X.ack, .string X.body, .int .i64 C] 29))
  clear hb5 hL4 hP4 hL5 HXi
  go_upto_region 7 with fail
  generalize w5.alloc (.cells #[.int .i64 X.src, .int .i64 X.dst, .int .i64 X.proto, .int .i64 X.a, .int .i64 X.b, .int .i64 X.kind, .int .i64 X.flags, .int .i64 X.seq, .int .i64 X.ack, .string X.body, .int .i64 C] 29) = w6 at hL6 hP6 hX6 ⊢
  generalize w5.heap.size = gx at *
  go_wp2_with fail
  refine (drawAddrText_any a0 len0 cap0 w6 (H0.out.later hL6.out) hl0).mono ?_
  rintro _ w7 ⟨n, rfl, hb7⟩
  have hL7 := hidS (hL6.out.trans (hb7.mono hL6.out.size))
  have hP7 := hidS (blk_later hP6.out hb7)
  have hX7 := hidS (blk_later hX6.out hb7)
  clear hb7 hL6 hP6 hX6 H0
  have HAi := hidS (fun W (h : Below w.heap.size w W) => addrI_any n W (HK.out.later h).tab)
  have HAs := hidS (fun W => specAddrText_any n W)
  have HAn := hidS (fun h => addr_no (n := n) h)
  have HAy := hidS (fun h => addr_yes (n := n) h)
  have HAz := hidS (addrAns_sm n)
  generalize addrAns n = S at *
  go_wp2_with fail
  refine (HAi.out w7 hL7.out).mono ?_
  rintro _ w8 ⟨rfl, hb8⟩
  have hL8 := hidS (hL7.out.trans (hb8.mono hL7.out.size))
  have hP8 := hidS (blk_later hP7.out hb8)
  have hX8 := hidS (blk_later hX7.out hb8)
  clear hb8 hL7 hP7 hX7 HAi
  go_wp2_with fail
  refine (drawAddrRead_any a1 len1 cap1 w8 (H1.out.later hL8.out) hl1).mono ?_
  rintro _ w9 ⟨r, rfl, hr, hb9⟩
  have HRz := hidS hr
  have hL9 := hidS (hL8.out.trans (hb9.mono hL8.out.size))
  have hP9 := hidS (blk_later hP8.out hb9)
  have hX9 := hidS (blk_later hX8.out hb9)
  clear hb9 hL8 hP8 hX8 hr H1
  have HYi := hidS (fun W (h : Below w.heap.size w W) => implAddrRead_any r W (small_141 (Nat.le_trans HRz.out (by omega))) (HK.out.later h))
  have HYs := hidS (fun W => specAddrRead_any r W (small_141 (Nat.le_trans HRz.out (by omega))))
  have HYt := hidS (fun h => addr_back (r := r) HRz.out h)
  have HYa := hidS (fun W (h : Below w.heap.size w W) => addrI_any (readAN r) W (HK.out.later h).tab)
  generalize readAN r = N at *
  generalize readAC r = D at *
  go_wp2_with fail
  refine (HYi.out w9 hL9.out).mono ?_
  rintro _ w10 ⟨rfl, hb10⟩
  have hL10 := hidS (hL9.out.trans (hb10.mono hL9.out.size))
  have hL11 := hidS (hL10.out.alloc hL10.out.size (.cells #[.int .i64 N, .int .i64 0, .int .i64 D] 34))
  have hP11 := hidS (blk_alloc (blk_later hP9.out hb10) (.cells #[.int .i64 N, .int .i64 0, .int .i64 D] 34))
  have hX11 := hidS (blk_alloc (blk_later hX9.out hb10) (.cells #[.int .i64 N, .int .i64 0, .int .i64 D] 34))
  have hY11 := hidS (heap_newG w10 (.cells #[.int .i64 N, .int .i64 0, .int .i64 D] 34))
  clear hb10 hL9 hP9 hX9 hL10 HYi
  go_upto_region 11 with fail
  generalize w10.alloc (.cells #[.int .i64 N, .int .i64 0, .int .i64 D] 34) = w11 at hL11 hP11 hX11 hY11 ⊢
  generalize w10.heap.size = gy at *
  refine grow_guarded 29 [.is (.string T), .is (.agg #[.int .i64 p.src, .int .i64 p.dst, .int .i64 p.proto, .int .i64 p.a, .int .i64 p.b, .int .i64 p.kind, .int .i64 p.flags, .int .i64 p.seq, .int .i64 p.ack, .string p.body]), .is (.string T), .is (.bool false), .is (.bool false), .is (.agg #[.int .i64 p.src, .int .i64 p.dst, .int .i64 p.proto, .int .i64 p.a, .int .i64 p.b, .int .i64 p.kind, .int .i64 p.flags, .int .i64 p.seq, .int .i64 p.ack, .string p.body]), .is (.bool (rightB p)), .is (.agg #[.int .i64 p.src, .int .i64 p.dst, .int .i64 p.proto, .int .i64 p.a, .int .i64 p.b, .int .i64 p.kind, .int .i64 p.flags, .int .i64 p.seq, .int .i64 p.ack, .string p.body]), .is (.bool (rightB p)), .is (.bool false), .is (.bool false), .is (.bool false), .is (.agg #[.int .i64 X.src, .int .i64 X.dst, .int .i64 X.proto, .int .i64 X.a, .int .i64 X.b, .int .i64 X.kind, .int .i64 X.flags, .int .i64 X.seq, .int .i64 X.ack, .string X.body, .int .i64 C]), .is (.string u), .is (.agg #[.int .i64 X.src, .int .i64 X.dst, .int .i64 X.proto, .int .i64 X.a, .int .i64 X.b, .int .i64 X.kind, .int .i64 X.flags, .int .i64 X.seq, .int .i64 X.ack, .string X.body, .int .i64 C]), .is (.bool false), .is (.bool false), .is (.bool false), .is (.string S), .is (.int .i64 n), .is (.string S), .is (.bool false), .is (.bool false), .is (.bool false), .is (.agg #[.int .i64 N, .int .i64 0, .int .i64 D]), .is (.string r), .is (.agg #[.int .i64 N, .int .i64 0, .int .i64 D]), .is (.bool false), .is (.bool false)] rfl (by kernel_rfl) (by kernel_rfl) ?steps11 ?fin11
  case steps11 =>
    refine ⟨?_, ?_, ?_, ?_, ?_, ?_, ?_, ?_, ?_, ?_, ?_, ?_, ?_, ?_, ?_, ?_, ?_, ?_, ?_, ?_, ?_, ?_, ?_, ?_, ?_, ?_, ?_, ?_, ?_, trivial⟩
    · refine stepW_of_u ⟨rfl, fun v W ρ hC kc kf ks ki kd => ?_⟩
      have t6 : ρ (.tmp 6) = .string T := ki 6 (by decide)
      simp [execOp, go_sem, kc, t6]
      exact ⟨hC, Below.refl _ _, rfl⟩
    · refine stepW_of_u ⟨rfl, fun v W ρ hC kc kf ks ki kd => ?_⟩
      have t5 : ρ (.tmp 5) = .pointer (some ⟨gp, 0, none⟩) := ki 5 (by decide)
      have hg := blk_later hP11.out hC
      have c0 := blk_cell hg 0
      have c1 := blk_cell hg 1
      have c2 := blk_cell hg 2
      have c3 := blk_cell hg 3
      have c4 := blk_cell hg 4
      have c5 := blk_cell hg 5
      have c6 := blk_cell hg 6
      have c7 := blk_cell hg 7
      have c8 := blk_cell hg 8
      have c9 := blk_cell hg 9
      simp at c0 c1 c2 c3 c4 c5 c6 c7 c8 c9
      simp [execOp, go_sem, kc, t5, c0, c1, c2, c3, c4, c5, c6, c7, c8, c9]
      exact ⟨hC, Below.refl _ _, rfl⟩
    · refine stepW_of_u ⟨rfl, fun v W ρ hC kc kf ks ki kd => ?_⟩
      have d1 : v 1 = .agg #[.int .i64 p.src, .int .i64 p.dst, .int .i64 p.proto, .int .i64 p.a, .int .i64 p.b, .int .i64 p.kind, .int .i64 p.flags, .int .i64 p.seq, .int .i64 p.ack, .string p.body] := by first | exact kd _ (Array.mem_of_getElem? (i := 0) rfl) rfl | exact kd _ (Array.mem_of_getElem? (i := 1) rfl) rfl | exact kd _ (Array.mem_of_getElem? (i := 2) rfl) rfl | exact kd _ (Array.mem_of_getElem? (i := 3) rfl) rfl | exact kd _ (Array.mem_of_getElem? (i := 4) rfl) rfl | exact kd _ (Array.mem_of_getElem? (i := 5) rfl) rfl
      have t38 : ρ (.tmp 38) = .agg #[.int .i64 p.src, .int .i64 p.dst, .int .i64 p.proto, .int .i64 p.a, .int .i64 p.b, .int .i64 p.kind, .int .i64 p.flags, .int .i64 p.seq, .int .i64 p.ack, .string p.body] := (ks 1 38 (by decide) rfl).trans d1
      simp [execOp, go_sem, t38, kf]
      exact Calls.mono (HBs.out W) (fun e x h => ⟨_, h.1, hC.trans (h.2.mono hC.size), h.2, rfl⟩)
    · refine stepW_of_u ⟨rfl, fun v W ρ hC kc kf ks ki kd => ?_⟩
      have d0 : v 0 = .string T := by first | exact kd _ (Array.mem_of_getElem? (i := 0) rfl) rfl | exact kd _ (Array.mem_of_getElem? (i := 1) rfl) rfl | exact kd _ (Array.mem_of_getElem? (i := 2) rfl) rfl | exact kd _ (Array.mem_of_getElem? (i := 3) rfl) rfl | exact kd _ (Array.mem_of_getElem? (i := 4) rfl) rfl | exact kd _ (Array.mem_of_getElem? (i := 5) rfl) rfl
      have t37 : ρ (.tmp 37) = .string T := (ks 0 37 (by decide) rfl).trans d0
      have d2 : v 2 = .string T := by first | exact kd _ (Array.mem_of_getElem? (i := 0) rfl) rfl | exact kd _ (Array.mem_of_getElem? (i := 1) rfl) rfl | exact kd _ (Array.mem_of_getElem? (i := 2) rfl) rfl | exact kd _ (Array.mem_of_getElem? (i := 3) rfl) rfl | exact kd _ (Array.mem_of_getElem? (i := 4) rfl) rfl | exact kd _ (Array.mem_of_getElem? (i := 5) rfl) rfl
      have t39 : ρ (.tmp 39) = .string T := (ks 2 39 (by decide) rfl).trans d2
      simp [execOp, go_sem, kc, t37, t39]
      exact ⟨hC, Below.refl _ _, rfl⟩
    · refine stepW_of_u ⟨rfl, fun v W ρ hC kc kf ks ki kd => ?_⟩
      have d3 : v 3 = .bool false := by first | exact kd _ (Array.mem_of_getElem? (i := 0) rfl) rfl | exact kd _ (Array.mem_of_getElem? (i := 1) rfl) rfl | exact kd _ (Array.mem_of_getElem? (i := 2) rfl) rfl | exact kd _ (Array.mem_of_getElem? (i := 3) rfl) rfl | exact kd _ (Array.mem_of_getElem? (i := 4) rfl) rfl | exact kd _ (Array.mem_of_getElem? (i := 5) rfl) rfl
      have t40 : ρ (.tmp 40) = .bool false := (ks 3 40 (by decide) rfl).trans d3
      simp [execOp, go_sem, kc, t40]
      exact ⟨hC, Below.refl _ _, rfl⟩
    · intro v W ρ y hC kc kf ks ki ky ku kd
      have dg : v 4 = .bool false := by first | exact kd _ (Array.mem_of_getElem? (i := 0) rfl) rfl | exact kd _ (Array.mem_of_getElem? (i := 1) rfl) rfl | exact kd _ (Array.mem_of_getElem? (i := 2) rfl) rfl | exact kd _ (Array.mem_of_getElem? (i := 3) rfl) rfl | exact kd _ (Array.mem_of_getElem? (i := 4) rfl) rfl | exact kd _ (Array.mem_of_getElem? (i := 5) rfl) rfl
      have hy := ky 4 41 false (by decide) rfl dg
      rw [if_pos (by simp [Region.wanted, hy])]
      have t5 : ρ (.tmp 5) = .pointer (some ⟨gp, 0, none⟩) := ki 5 (by decide)
      have hg := blk_later hP11.out hC
      have c0 := blk_cell hg 0
      have c1 := blk_cell hg 1
      have c2 := blk_cell hg 2
      have c3 := blk_cell hg 3
      have c4 := blk_cell hg 4
      have c5 := blk_cell hg 5
      have c6 := blk_cell hg 6
      have c7 := blk_cell hg 7
      have c8 := blk_cell hg 8
      have c9 := blk_cell hg 9
      simp at c0 c1 c2 c3 c4 c5 c6 c7 c8 c9
      simp [execOp, go_sem, kc, t5, c0, c1, c2, c3, c4, c5, c6, c7, c8, c9]
      exact ⟨hC, Below.refl _ _, rfl⟩
    · intro v W ρ y hC kc kf ks ki ky ku kd
      have dg : v 4 = .bool false := by first | exact kd _ (Array.mem_of_getElem? (i := 0) rfl) rfl | exact kd _ (Array.mem_of_getElem? (i := 1) rfl) rfl | exact kd _ (Array.mem_of_getElem? (i := 2) rfl) rfl | exact kd _ (Array.mem_of_getElem? (i := 3) rfl) rfl | exact kd _ (Array.mem_of_getElem? (i := 4) rfl) rfl | exact kd _ (Array.mem_of_getElem? (i := 5) rfl) rfl
      have hy := ky 4 41 false (by decide) rfl dg
      rw [if_pos (by simp [Region.wanted, hy])]
      have d5 : v 5 = .agg #[.int .i64 p.src, .int .i64 p.dst, .int .i64 p.proto, .int .i64 p.a, .int .i64 p.b, .int .i64 p.kind, .int .i64 p.flags, .int .i64 p.seq, .int .i64 p.ack, .string p.body] := by first | exact kd _ (Array.mem_of_getElem? (i := 0) rfl) rfl | exact kd _ (Array.mem_of_getElem? (i := 1) rfl) rfl | exact kd _ (Array.mem_of_getElem? (i := 2) rfl) rfl | exact kd _ (Array.mem_of_getElem? (i := 3) rfl) rfl | exact kd _ (Array.mem_of_getElem? (i := 4) rfl) rfl | exact kd _ (Array.mem_of_getElem? (i := 5) rfl) rfl
      have t42 : ρ (.tmp 42) = .agg #[.int .i64 p.src, .int .i64 p.dst, .int .i64 p.proto, .int .i64 p.a, .int .i64 p.b, .int .i64 p.kind, .int .i64 p.flags, .int .i64 p.seq, .int .i64 p.ack, .string p.body] := (ks 5 42 (by decide) rfl).trans d5
      simp [execOp, go_sem, t42, kf]
      exact Calls.mono (HRi.out W) (fun e x h => ⟨_, h.1, hC.trans (h.2.mono hC.size), h.2, rfl⟩)
    · intro v W ρ y hC kc kf ks ki ky ku kd
      have dg : v 4 = .bool false := by first | exact kd _ (Array.mem_of_getElem? (i := 0) rfl) rfl | exact kd _ (Array.mem_of_getElem? (i := 1) rfl) rfl | exact kd _ (Array.mem_of_getElem? (i := 2) rfl) rfl | exact kd _ (Array.mem_of_getElem? (i := 3) rfl) rfl | exact kd _ (Array.mem_of_getElem? (i := 4) rfl) rfl | exact kd _ (Array.mem_of_getElem? (i := 5) rfl) rfl
      have hy := ky 4 41 false (by decide) rfl dg
      rw [if_pos (by simp [Region.wanted, hy])]
      have t5 : ρ (.tmp 5) = .pointer (some ⟨gp, 0, none⟩) := ki 5 (by decide)
      have hg := blk_later hP11.out hC
      have c0 := blk_cell hg 0
      have c1 := blk_cell hg 1
      have c2 := blk_cell hg 2
      have c3 := blk_cell hg 3
      have c4 := blk_cell hg 4
      have c5 := blk_cell hg 5
      have c6 := blk_cell hg 6
      have c7 := blk_cell hg 7
      have c8 := blk_cell hg 8
      have c9 := blk_cell hg 9
      simp at c0 c1 c2 c3 c4 c5 c6 c7 c8 c9
      simp [execOp, go_sem, kc, t5, c0, c1, c2, c3, c4, c5, c6, c7, c8, c9]
      exact ⟨hC, Below.refl _ _, rfl⟩
    · intro v W ρ y hC kc kf ks ki ky ku kd
      have dg : v 4 = .bool false := by first | exact kd _ (Array.mem_of_getElem? (i := 0) rfl) rfl | exact kd _ (Array.mem_of_getElem? (i := 1) rfl) rfl | exact kd _ (Array.mem_of_getElem? (i := 2) rfl) rfl | exact kd _ (Array.mem_of_getElem? (i := 3) rfl) rfl | exact kd _ (Array.mem_of_getElem? (i := 4) rfl) rfl | exact kd _ (Array.mem_of_getElem? (i := 5) rfl) rfl
      have hy := ky 4 41 false (by decide) rfl dg
      rw [if_pos (by simp [Region.wanted, hy])]
      have d7 : v 7 = .agg #[.int .i64 p.src, .int .i64 p.dst, .int .i64 p.proto, .int .i64 p.a, .int .i64 p.b, .int .i64 p.kind, .int .i64 p.flags, .int .i64 p.seq, .int .i64 p.ack, .string p.body] := by first | exact kd _ (Array.mem_of_getElem? (i := 0) rfl) rfl | exact kd _ (Array.mem_of_getElem? (i := 1) rfl) rfl | exact kd _ (Array.mem_of_getElem? (i := 2) rfl) rfl | exact kd _ (Array.mem_of_getElem? (i := 3) rfl) rfl | exact kd _ (Array.mem_of_getElem? (i := 4) rfl) rfl | exact kd _ (Array.mem_of_getElem? (i := 5) rfl) rfl
      have t44 : ρ (.tmp 44) = .agg #[.int .i64 p.src, .int .i64 p.dst, .int .i64 p.proto, .int .i64 p.a, .int .i64 p.b, .int .i64 p.kind, .int .i64 p.flags, .int .i64 p.seq, .int .i64 p.ack, .string p.body] := (ks 7 44 (by decide) rfl).trans d7
      simp [execOp, go_sem, t44, kf]
      exact Calls.mono (HRs.out W) (fun e x h => ⟨_, h.1, hC.trans (h.2.mono hC.size), h.2, rfl⟩)
    · intro v W ρ y hC kc kf ks ki ky ku kd
      have dg : v 4 = .bool false := by first | exact kd _ (Array.mem_of_getElem? (i := 0) rfl) rfl | exact kd _ (Array.mem_of_getElem? (i := 1) rfl) rfl | exact kd _ (Array.mem_of_getElem? (i := 2) rfl) rfl | exact kd _ (Array.mem_of_getElem? (i := 3) rfl) rfl | exact kd _ (Array.mem_of_getElem? (i := 4) rfl) rfl | exact kd _ (Array.mem_of_getElem? (i := 5) rfl) rfl
      have hy := ky 4 41 false (by decide) rfl dg
      rw [if_pos (by simp [Region.wanted, hy])]
      have d6 : v 6 = .bool (rightB p) := by first | exact kd _ (Array.mem_of_getElem? (i := 0) rfl) rfl | exact kd _ (Array.mem_of_getElem? (i := 1) rfl) rfl | exact kd _ (Array.mem_of_getElem? (i := 2) rfl) rfl | exact kd _ (Array.mem_of_getElem? (i := 3) rfl) rfl | exact kd _ (Array.mem_of_getElem? (i := 4) rfl) rfl | exact kd _ (Array.mem_of_getElem? (i := 5) rfl) rfl
      have t43 : ρ (.tmp 43) = .bool (rightB p) := (ks 6 43 (by decide) rfl).trans d6
      have d8 : v 8 = .bool (rightB p) := by first | exact kd _ (Array.mem_of_getElem? (i := 0) rfl) rfl | exact kd _ (Array.mem_of_getElem? (i := 1) rfl) rfl | exact kd _ (Array.mem_of_getElem? (i := 2) rfl) rfl | exact kd _ (Array.mem_of_getElem? (i := 3) rfl) rfl | exact kd _ (Array.mem_of_getElem? (i := 4) rfl) rfl | exact kd _ (Array.mem_of_getElem? (i := 5) rfl) rfl
      have t45 : ρ (.tmp 45) = .bool (rightB p) := (ks 8 45 (by decide) rfl).trans d8
      simp [execOp, go_sem, kc, t43, t45]
      exact ⟨hC, Below.refl _ _, rfl⟩
    · refine stepW_of_u ⟨rfl, fun v W ρ hC kc kf ks ki kd => ?_⟩
      have d4 : v 4 = .bool false := by first | exact kd _ (Array.mem_of_getElem? (i := 0) rfl) rfl | exact kd _ (Array.mem_of_getElem? (i := 1) rfl) rfl | exact kd _ (Array.mem_of_getElem? (i := 2) rfl) rfl | exact kd _ (Array.mem_of_getElem? (i := 3) rfl) rfl | exact kd _ (Array.mem_of_getElem? (i := 4) rfl) rfl | exact kd _ (Array.mem_of_getElem? (i := 5) rfl) rfl
      have t41 : ρ (.tmp 41) = .bool false := (ks 4 41 (by decide) rfl).trans d4
      have d9 : v 9 = .bool false := by first | exact kd _ (Array.mem_of_getElem? (i := 0) rfl) rfl | exact kd _ (Array.mem_of_getElem? (i := 1) rfl) rfl | exact kd _ (Array.mem_of_getElem? (i := 2) rfl) rfl | exact kd _ (Array.mem_of_getElem? (i := 3) rfl) rfl | exact kd _ (Array.mem_of_getElem? (i := 4) rfl) rfl | exact kd _ (Array.mem_of_getElem? (i := 5) rfl) rfl
      have t46 : ρ (.tmp 46) = .bool false := (ks 9 46 (by decide) rfl).trans d9
      simp [execOp, go_sem, kc, t41, t46]
      exact ⟨hC, Below.refl _ _, rfl⟩
    · refine stepW_of_u ⟨rfl, fun v W ρ hC kc kf ks ki kd => ?_⟩
      have d10 : v 10 = .bool false := by first | exact kd _ (Array.mem_of_getElem? (i := 0) rfl) rfl | exact kd _ (Array.mem_of_getElem? (i := 1) rfl) rfl | exact kd _ (Array.mem_of_getElem? (i := 2) rfl) rfl | exact kd _ (Array.mem_of_getElem? (i := 3) rfl) rfl | exact kd _ (Array.mem_of_getElem? (i := 4) rfl) rfl | exact kd _ (Array.mem_of_getElem? (i := 5) rfl) rfl
      have t47 : ρ (.tmp 47) = .bool false := (ks 10 47 (by decide) rfl).trans d10
      simp [execOp, go_sem, kc, t47]
      exact ⟨hC, Below.refl _ _, rfl⟩
    · intro v W ρ y hC kc kf ks ki ky ku kd
      have dg : v 11 = .bool false := by first | exact kd _ (Array.mem_of_getElem? (i := 0) rfl) rfl | exact kd _ (Array.mem_of_getElem? (i := 1) rfl) rfl | exact kd _ (Array.mem_of_getElem? (i := 2) rfl) rfl | exact kd _ (Array.mem_of_getElem? (i := 3) rfl) rfl | exact kd _ (Array.mem_of_getElem? (i := 4) rfl) rfl | exact kd _ (Array.mem_of_getElem? (i := 5) rfl) rfl
      have hy := ky 11 48 false (by decide) rfl dg
      rw [if_pos (by simp [Region.wanted, hy])]
      have t8 : ρ (.tmp 8) = .pointer (some ⟨gx, 0, none⟩) := ki 8 (by decide)
      have hg := blk_later hX11.out hC
      have c0 := blk_cell hg 0
      have c1 := blk_cell hg 1
      have c2 := blk_cell hg 2
      have c3 := blk_cell hg 3
      have c4 := blk_cell hg 4
      have c5 := blk_cell hg 5
      have c6 := blk_cell hg 6
      have c7 := blk_cell hg 7
      have c8 := blk_cell hg 8
      have c9 := blk_cell hg 9
      have c10 := blk_cell hg 10
      simp at c0 c1 c2 c3 c4 c5 c6 c7 c8 c9 c10
      simp [execOp, go_sem, kc, t8, c0, c1, c2, c3, c4, c5, c6, c7, c8, c9, c10]
      exact ⟨hC, Below.refl _ _, rfl⟩
    · intro v W ρ y hC kc kf ks ki ky ku kd
      have dg : v 11 = .bool false := by first | exact kd _ (Array.mem_of_getElem? (i := 0) rfl) rfl | exact kd _ (Array.mem_of_getElem? (i := 1) rfl) rfl | exact kd _ (Array.mem_of_getElem? (i := 2) rfl) rfl | exact kd _ (Array.mem_of_getElem? (i := 3) rfl) rfl | exact kd _ (Array.mem_of_getElem? (i := 4) rfl) rfl | exact kd _ (Array.mem_of_getElem? (i := 5) rfl) rfl
      have hy := ky 11 48 false (by decide) rfl dg
      rw [if_pos (by simp [Region.wanted, hy])]
      have t7 : ρ (.tmp 7) = .string u := ki 7 (by decide)
      simp [execOp, go_sem, kc, t7]
      exact ⟨hC, Below.refl _ _, rfl⟩
    · intro v W ρ y hC kc kf ks ki ky ku kd
      have dg : v 11 = .bool false := by first | exact kd _ (Array.mem_of_getElem? (i := 0) rfl) rfl | exact kd _ (Array.mem_of_getElem? (i := 1) rfl) rfl | exact kd _ (Array.mem_of_getElem? (i := 2) rfl) rfl | exact kd _ (Array.mem_of_getElem? (i := 3) rfl) rfl | exact kd _ (Array.mem_of_getElem? (i := 4) rfl) rfl | exact kd _ (Array.mem_of_getElem? (i := 5) rfl) rfl
      have hy := ky 11 48 false (by decide) rfl dg
      rw [if_pos (by simp [Region.wanted, hy])]
      have d13 : v 13 = .string u := by first | exact kd _ (Array.mem_of_getElem? (i := 0) rfl) rfl | exact kd _ (Array.mem_of_getElem? (i := 1) rfl) rfl | exact kd _ (Array.mem_of_getElem? (i := 2) rfl) rfl | exact kd _ (Array.mem_of_getElem? (i := 3) rfl) rfl | exact kd _ (Array.mem_of_getElem? (i := 4) rfl) rfl | exact kd _ (Array.mem_of_getElem? (i := 5) rfl) rfl
      have t50 : ρ (.tmp 50) = .string u := (ks 13 50 (by decide) rfl).trans d13
      simp [execOp, go_sem, t50, kf]
      exact Calls.mono (HXs.out W) (fun e x h => ⟨_, h.1, hC.trans (h.2.mono hC.size), h.2, rfl⟩)
    · intro v W ρ y hC kc kf ks ki ky ku kd
      have dg : v 11 = .bool false := by first | exact kd _ (Array.mem_of_getElem? (i := 0) rfl) rfl | exact kd _ (Array.mem_of_getElem? (i := 1) rfl) rfl | exact kd _ (Array.mem_of_getElem? (i := 2) rfl) rfl | exact kd _ (Array.mem_of_getElem? (i := 3) rfl) rfl | exact kd _ (Array.mem_of_getElem? (i := 4) rfl) rfl | exact kd _ (Array.mem_of_getElem? (i := 5) rfl) rfl
      have hy := ky 11 48 false (by decide) rfl dg
      rw [if_pos (by simp [Region.wanted, hy])]
      have d12 : v 12 = .agg #[.int .i64 X.src, .int .i64 X.dst, .int .i64 X.proto, .int .i64 X.a, .int .i64 X.b, .int .i64 X.kind, .int .i64 X.flags, .int .i64 X.seq, .int .i64 X.ack, .string X.body, .int .i64 C] := by first | exact kd _ (Array.mem_of_getElem? (i := 0) rfl) rfl | exact kd _ (Array.mem_of_getElem? (i := 1) rfl) rfl | exact kd _ (Array.mem_of_getElem? (i := 2) rfl) rfl | exact kd _ (Array.mem_of_getElem? (i := 3) rfl) rfl | exact kd _ (Array.mem_of_getElem? (i := 4) rfl) rfl | exact kd _ (Array.mem_of_getElem? (i := 5) rfl) rfl
      have t49 : ρ (.tmp 49) = .agg #[.int .i64 X.src, .int .i64 X.dst, .int .i64 X.proto, .int .i64 X.a, .int .i64 X.b, .int .i64 X.kind, .int .i64 X.flags, .int .i64 X.seq, .int .i64 X.ack, .string X.body, .int .i64 C] := (ks 12 49 (by decide) rfl).trans d12
      have d14 : v 14 = .agg #[.int .i64 X.src, .int .i64 X.dst, .int .i64 X.proto, .int .i64 X.a, .int .i64 X.b, .int .i64 X.kind, .int .i64 X.flags, .int .i64 X.seq, .int .i64 X.ack, .string X.body, .int .i64 C] := by first | exact kd _ (Array.mem_of_getElem? (i := 0) rfl) rfl | exact kd _ (Array.mem_of_getElem? (i := 1) rfl) rfl | exact kd _ (Array.mem_of_getElem? (i := 2) rfl) rfl | exact kd _ (Array.mem_of_getElem? (i := 3) rfl) rfl | exact kd _ (Array.mem_of_getElem? (i := 4) rfl) rfl | exact kd _ (Array.mem_of_getElem? (i := 5) rfl) rfl
      have t51 : ρ (.tmp 51) = .agg #[.int .i64 X.src, .int .i64 X.dst, .int .i64 X.proto, .int .i64 X.a, .int .i64 X.b, .int .i64 X.kind, .int .i64 X.flags, .int .i64 X.seq, .int .i64 X.ack, .string X.body, .int .i64 C] := (ks 14 51 (by decide) rfl).trans d14
      simp [execOp, go_sem, kc, t49, t51, neq_pko X C W]
      exact ⟨hC, Below.refl _ _, rfl⟩
    · refine stepW_of_u ⟨rfl, fun v W ρ hC kc kf ks ki kd => ?_⟩
      have d11 : v 11 = .bool false := by first | exact kd _ (Array.mem_of_getElem? (i := 0) rfl) rfl | exact kd _ (Array.mem_of_getElem? (i := 1) rfl) rfl | exact kd _ (Array.mem_of_getElem? (i := 2) rfl) rfl | exact kd _ (Array.mem_of_getElem? (i := 3) rfl) rfl | exact kd _ (Array.mem_of_getElem? (i := 4) rfl) rfl | exact kd _ (Array.mem_of_getElem? (i := 5) rfl) rfl
      have t48 : ρ (.tmp 48) = .bool false := (ks 11 48 (by decide) rfl).trans d11
      have d15 : v 15 = .bool false := by first | exact kd _ (Array.mem_of_getElem? (i := 0) rfl) rfl | exact kd _ (Array.mem_of_getElem? (i := 1) rfl) rfl | exact kd _ (Array.mem_of_getElem? (i := 2) rfl) rfl | exact kd _ (Array.mem_of_getElem? (i := 3) rfl) rfl | exact kd _ (Array.mem_of_getElem? (i := 4) rfl) rfl | exact kd _ (Array.mem_of_getElem? (i := 5) rfl) rfl
      have t52 : ρ (.tmp 52) = .bool false := (ks 15 52 (by decide) rfl).trans d15
      simp [execOp, go_sem, kc, t48, t52]
      exact ⟨hC, Below.refl _ _, rfl⟩
    · refine stepW_of_u ⟨rfl, fun v W ρ hC kc kf ks ki kd => ?_⟩
      have d16 : v 16 = .bool false := by first | exact kd _ (Array.mem_of_getElem? (i := 0) rfl) rfl | exact kd _ (Array.mem_of_getElem? (i := 1) rfl) rfl | exact kd _ (Array.mem_of_getElem? (i := 2) rfl) rfl | exact kd _ (Array.mem_of_getElem? (i := 3) rfl) rfl | exact kd _ (Array.mem_of_getElem? (i := 4) rfl) rfl | exact kd _ (Array.mem_of_getElem? (i := 5) rfl) rfl
      have t53 : ρ (.tmp 53) = .bool false := (ks 16 53 (by decide) rfl).trans d16
      simp [execOp, go_sem, kc, t53]
      exact ⟨hC, Below.refl _ _, rfl⟩
    · intro v W ρ y hC kc kf ks ki ky ku kd
      have dg : v 17 = .bool false := by first | exact kd _ (Array.mem_of_getElem? (i := 0) rfl) rfl | exact kd _ (Array.mem_of_getElem? (i := 1) rfl) rfl | exact kd _ (Array.mem_of_getElem? (i := 2) rfl) rfl | exact kd _ (Array.mem_of_getElem? (i := 3) rfl) rfl | exact kd _ (Array.mem_of_getElem? (i := 4) rfl) rfl | exact kd _ (Array.mem_of_getElem? (i := 5) rfl) rfl
      have hy := ky 17 54 false (by decide) rfl dg
      rw [if_pos (by simp [Region.wanted, hy])]
      have t10 : ρ (.tmp 10) = .string S := ki 10 (by decide)
      simp [execOp, go_sem, kc, t10]
      exact ⟨hC, Below.refl _ _, rfl⟩
    · intro v W ρ y hC kc kf ks ki ky ku kd
      have dg : v 17 = .bool false := by first | exact kd _ (Array.mem_of_getElem? (i := 0) rfl) rfl | exact kd _ (Array.mem_of_getElem? (i := 1) rfl) rfl | exact kd _ (Array.mem_of_getElem? (i := 2) rfl) rfl | exact kd _ (Array.mem_of_getElem? (i := 3) rfl) rfl | exact kd _ (Array.mem_of_getElem? (i := 4) rfl) rfl | exact kd _ (Array.mem_of_getElem? (i := 5) rfl) rfl
      have hy := ky 17 54 false (by decide) rfl dg
      rw [if_pos (by simp [Region.wanted, hy])]
      have t9 : ρ (.tmp 9) = .int .i64 n := ki 9 (by decide)
      simp [execOp, go_sem, kc, t9]
      exact ⟨hC, Below.refl _ _, rfl⟩
    · intro v W ρ y hC kc kf ks ki ky ku kd
      have dg : v 17 = .bool false := by first | exact kd _ (Array.mem_of_getElem? (i := 0) rfl) rfl | exact kd _ (Array.mem_of_getElem? (i := 1) rfl) rfl | exact kd _ (Array.mem_of_getElem? (i := 2) rfl) rfl | exact kd _ (Array.mem_of_getElem? (i := 3) rfl) rfl | exact kd _ (Array.mem_of_getElem? (i := 4) rfl) rfl | exact kd _ (Array.mem_of_getElem? (i := 5) rfl) rfl
      have hy := ky 17 54 false (by decide) rfl dg
      rw [if_pos (by simp [Region.wanted, hy])]
      have d19 : v 19 = .int .i64 n := by first | exact kd _ (Array.mem_of_getElem? (i := 0) rfl) rfl | exact kd _ (Array.mem_of_getElem? (i := 1) rfl) rfl | exact kd _ (Array.mem_of_getElem? (i := 2) rfl) rfl | exact kd _ (Array.mem_of_getElem? (i := 3) rfl) rfl | exact kd _ (Array.mem_of_getElem? (i := 4) rfl) rfl | exact kd _ (Array.mem_of_getElem? (i := 5) rfl) rfl
      have t56 : ρ (.tmp 56) = .int .i64 n := (ks 19 56 (by decide) rfl).trans d19
      simp [execOp, go_sem, t56, kf]
      exact Calls.mono (HAs.out W) (fun e x h => ⟨_, h.1, hC.trans (h.2.mono hC.size), h.2, rfl⟩)
    · intro v W ρ y hC kc kf ks ki ky ku kd
      have dg : v 17 = .bool false := by first | exact kd _ (Array.mem_of_getElem? (i := 0) rfl) rfl | exact kd _ (Array.mem_of_getElem? (i := 1) rfl) rfl | exact kd _ (Array.mem_of_getElem? (i := 2) rfl) rfl | exact kd _ (Array.mem_of_getElem? (i := 3) rfl) rfl | exact kd _ (Array.mem_of_getElem? (i := 4) rfl) rfl | exact kd _ (Array.mem_of_getElem? (i := 5) rfl) rfl
      have hy := ky 17 54 false (by decide) rfl dg
      rw [if_pos (by simp [Region.wanted, hy])]
      have d18 : v 18 = .string S := by first | exact kd _ (Array.mem_of_getElem? (i := 0) rfl) rfl | exact kd _ (Array.mem_of_getElem? (i := 1) rfl) rfl | exact kd _ (Array.mem_of_getElem? (i := 2) rfl) rfl | exact kd _ (Array.mem_of_getElem? (i := 3) rfl) rfl | exact kd _ (Array.mem_of_getElem? (i := 4) rfl) rfl | exact kd _ (Array.mem_of_getElem? (i := 5) rfl) rfl
      have t55 : ρ (.tmp 55) = .string S := (ks 18 55 (by decide) rfl).trans d18
      have d20 : v 20 = .string S := by first | exact kd _ (Array.mem_of_getElem? (i := 0) rfl) rfl | exact kd _ (Array.mem_of_getElem? (i := 1) rfl) rfl | exact kd _ (Array.mem_of_getElem? (i := 2) rfl) rfl | exact kd _ (Array.mem_of_getElem? (i := 3) rfl) rfl | exact kd _ (Array.mem_of_getElem? (i := 4) rfl) rfl | exact kd _ (Array.mem_of_getElem? (i := 5) rfl) rfl
      have t57 : ρ (.tmp 57) = .string S := (ks 20 57 (by decide) rfl).trans d20
      simp [execOp, go_sem, kc, t55, t57]
      exact ⟨hC, Below.refl _ _, rfl⟩
    · refine stepW_of_u ⟨rfl, fun v W ρ hC kc kf ks ki kd => ?_⟩
      have d17 : v 17 = .bool false := by first | exact kd _ (Array.mem_of_getElem? (i := 0) rfl) rfl | exact kd _ (Array.mem_of_getElem? (i := 1) rfl) rfl | exact kd _ (Array.mem_of_getElem? (i := 2) rfl) rfl | exact kd _ (Array.mem_of_getElem? (i := 3) rfl) rfl | exact kd _ (Array.mem_of_getElem? (i := 4) rfl) rfl | exact kd _ (Array.mem_of_getElem? (i := 5) rfl) rfl
      have t54 : ρ (.tmp 54) = .bool false := (ks 17 54 (by decide) rfl).trans d17
      have d21 : v 21 = .bool false := by first | exact kd _ (Array.mem_of_getElem? (i := 0) rfl) rfl | exact kd _ (Array.mem_of_getElem? (i := 1) rfl) rfl | exact kd _ (Array.mem_of_getElem? (i := 2) rfl) rfl | exact kd _ (Array.mem_of_getElem? (i := 3) rfl) rfl | exact kd _ (Array.mem_of_getElem? (i := 4) rfl) rfl | exact kd _ (Array.mem_of_getElem? (i := 5) rfl) rfl
      have t58 : ρ (.tmp 58) = .bool false := (ks 21 58 (by decide) rfl).trans d21
      simp [execOp, go_sem, kc, t54, t58]
      exact ⟨hC, Below.refl _ _, rfl⟩
    · refine stepW_of_u ⟨rfl, fun v W ρ hC kc kf ks ki kd => ?_⟩
      have d22 : v 22 = .bool false := by first | exact kd _ (Array.mem_of_getElem? (i := 0) rfl) rfl | exact kd _ (Array.mem_of_getElem? (i := 1) rfl) rfl | exact kd _ (Array.mem_of_getElem? (i := 2) rfl) rfl | exact kd _ (Array.mem_of_getElem? (i := 3) rfl) rfl | exact kd _ (Array.mem_of_getElem? (i := 4) rfl) rfl | exact kd _ (Array.mem_of_getElem? (i := 5) rfl) rfl
      have t59 : ρ (.tmp 59) = .bool false := (ks 22 59 (by decide) rfl).trans d22
      simp [execOp, go_sem, kc, t59]
      exact ⟨hC, Below.refl _ _, rfl⟩
    · intro v W ρ y hC kc kf ks ki ky ku kd
      have dg : v 23 = .bool false := by first | exact kd _ (Array.mem_of_getElem? (i := 0) rfl) rfl | exact kd _ (Array.mem_of_getElem? (i := 1) rfl) rfl | exact kd _ (Array.mem_of_getElem? (i := 2) rfl) rfl | exact kd _ (Array.mem_of_getElem? (i := 3) rfl) rfl | exact kd _ (Array.mem_of_getElem? (i := 4) rfl) rfl | exact kd _ (Array.mem_of_getElem? (i := 5) rfl) rfl
      have hy := ky 23 60 false (by decide) rfl dg
      rw [if_pos (by simp [Region.wanted, hy])]
      have t12 : ρ (.tmp 12) = .pointer (some ⟨gy, 0, none⟩) := ki 12 (by decide)
      have hg := blk_later hY11.out hC
      have c0 := blk_cell hg 0
      have c1 := blk_cell hg 1
      have c2 := blk_cell hg 2
      simp at c0 c1 c2
      simp [execOp, go_sem, kc, t12, c0, c1, c2]
      exact ⟨hC, Below.refl _ _, rfl⟩
    · intro v W ρ y hC kc kf ks ki ky ku kd
      have dg : v 23 = .bool false := by first | exact kd _ (Array.mem_of_getElem? (i := 0) rfl) rfl | exact kd _ (Array.mem_of_getElem? (i := 1) rfl) rfl | exact kd _ (Array.mem_of_getElem? (i := 2) rfl) rfl | exact kd _ (Array.mem_of_getElem? (i := 3) rfl) rfl | exact kd _ (Array.mem_of_getElem? (i := 4) rfl) rfl | exact kd _ (Array.mem_of_getElem? (i := 5) rfl) rfl
      have hy := ky 23 60 false (by decide) rfl dg
      rw [if_pos (by simp [Region.wanted, hy])]
      have t11 : ρ (.tmp 11) = .string r := ki 11 (by decide)
      simp [execOp, go_sem, kc, t11]
      exact ⟨hC, Below.refl _ _, rfl⟩
    · intro v W ρ y hC kc kf ks ki ky ku kd
      have dg : v 23 = .bool false := by first | exact kd _ (Array.mem_of_getElem? (i := 0) rfl) rfl | exact kd _ (Array.mem_of_getElem? (i := 1) rfl) rfl | exact kd _ (Array.mem_of_getElem? (i := 2) rfl) rfl | exact kd _ (Array.mem_of_getElem? (i := 3) rfl) rfl | exact kd _ (Array.mem_of_getElem? (i := 4) rfl) rfl | exact kd _ (Array.mem_of_getElem? (i := 5) rfl) rfl
      have hy := ky 23 60 false (by decide) rfl dg
      rw [if_pos (by simp [Region.wanted, hy])]
      have d25 : v 25 = .string r := by first | exact kd _ (Array.mem_of_getElem? (i := 0) rfl) rfl | exact kd _ (Array.mem_of_getElem? (i := 1) rfl) rfl | exact kd _ (Array.mem_of_getElem? (i := 2) rfl) rfl | exact kd _ (Array.mem_of_getElem? (i := 3) rfl) rfl | exact kd _ (Array.mem_of_getElem? (i := 4) rfl) rfl | exact kd _ (Array.mem_of_getElem? (i := 5) rfl) rfl
      have t62 : ρ (.tmp 62) = .string r := (ks 25 62 (by decide) rfl).trans d25
      simp [execOp, go_sem, t62, kf]
      exact Calls.mono (HYs.out W) (fun e x h => ⟨_, h.1, hC.trans (h.2.mono hC.size), h.2, rfl⟩)
    · intro v W ρ y hC kc kf ks ki ky ku kd
      have dg : v 23 = .bool false := by first | exact kd _ (Array.mem_of_getElem? (i := 0) rfl) rfl | exact kd _ (Array.mem_of_getElem? (i := 1) rfl) rfl | exact kd _ (Array.mem_of_getElem? (i := 2) rfl) rfl | exact kd _ (Array.mem_of_getElem? (i := 3) rfl) rfl | exact kd _ (Array.mem_of_getElem? (i := 4) rfl) rfl | exact kd _ (Array.mem_of_getElem? (i := 5) rfl) rfl
      have hy := ky 23 60 false (by decide) rfl dg
      rw [if_pos (by simp [Region.wanted, hy])]
      have d24 : v 24 = .agg #[.int .i64 N, .int .i64 0, .int .i64 D] := by first | exact kd _ (Array.mem_of_getElem? (i := 0) rfl) rfl | exact kd _ (Array.mem_of_getElem? (i := 1) rfl) rfl | exact kd _ (Array.mem_of_getElem? (i := 2) rfl) rfl | exact kd _ (Array.mem_of_getElem? (i := 3) rfl) rfl | exact kd _ (Array.mem_of_getElem? (i := 4) rfl) rfl | exact kd _ (Array.mem_of_getElem? (i := 5) rfl) rfl
      have t61 : ρ (.tmp 61) = .agg #[.int .i64 N, .int .i64 0, .int .i64 D] := (ks 24 61 (by decide) rfl).trans d24
      have d26 : v 26 = .agg #[.int .i64 N, .int .i64 0, .int .i64 D] := by first | exact kd _ (Array.mem_of_getElem? (i := 0) rfl) rfl | exact kd _ (Array.mem_of_getElem? (i := 1) rfl) rfl | exact kd _ (Array.mem_of_getElem? (i := 2) rfl) rfl | exact kd _ (Array.mem_of_getElem? (i := 3) rfl) rfl | exact kd _ (Array.mem_of_getElem? (i := 4) rfl) rfl | exact kd _ (Array.mem_of_getElem? (i := 5) rfl) rfl
      have t63 : ρ (.tmp 63) = .agg #[.int .i64 N, .int .i64 0, .int .i64 D] := (ks 26 63 (by decide) rfl).trans d26
      simp [execOp, go_sem, kc, t61, t63, neq_num N 0 D W]
      exact ⟨hC, Below.refl _ _, rfl⟩
    · refine stepW_of_u ⟨rfl, fun v W ρ hC kc kf ks ki kd => ?_⟩
      have d23 : v 23 = .bool false := by first | exact kd _ (Array.mem_of_getElem? (i := 0) rfl) rfl | exact kd _ (Array.mem_of_getElem? (i := 1) rfl) rfl | exact kd _ (Array.mem_of_getElem? (i := 2) rfl) rfl | exact kd _ (Array.mem_of_getElem? (i := 3) rfl) rfl | exact kd _ (Array.mem_of_getElem? (i := 4) rfl) rfl | exact kd _ (Array.mem_of_getElem? (i := 5) rfl) rfl
      have t60 : ρ (.tmp 60) = .bool false := (ks 23 60 (by decide) rfl).trans d23
      have d27 : v 27 = .bool false := by first | exact kd _ (Array.mem_of_getElem? (i := 0) rfl) rfl | exact kd _ (Array.mem_of_getElem? (i := 1) rfl) rfl | exact kd _ (Array.mem_of_getElem? (i := 2) rfl) rfl | exact kd _ (Array.mem_of_getElem? (i := 3) rfl) rfl | exact kd _ (Array.mem_of_getElem? (i := 4) rfl) rfl | exact kd _ (Array.mem_of_getElem? (i := 5) rfl) rfl
      have t64 : ρ (.tmp 64) = .bool false := (ks 27 64 (by decide) rfl).trans d27
      simp [execOp, go_sem, kc, t60, t64]
      exact ⟨hC, Below.refl _ _, rfl⟩
  intro v11 W11 hb11 hall
  have hv11 : v11 28 = .bool false := hall 28 (by decide)
  simp [upto, Act.put]
  rw [hv11]
  clear hall hv11
  have hL12 := hidS (hL11.out.trans (hb11.mono hL11.out.size))
  have hP12 := hidS (blk_later hP11.out hb11)
  have hX12 := hidS (blk_later hX11.out hb11)
  have hY12 := hidS (blk_later hY11.out hb11)
  clear hb11 hL11 hP11 hX11 hY11
  clear HBs HRi HRs HXs HAs HYs
  go_wp2_with fail
  refine grow_cases 27 (.bool false) ?rest13 ?now13
  case now13 =>
    intro fin
    clear HYa HYt HAn HAy HAz HRz
    have FIN := hidS fin
    clear fin
    by_cases hr : rightB p = true
    · obtain ⟨z1, z2, z3, z4⟩ := HTy.out hr
      have HRb := hidS (fun W (h : Below w.heap.size w W) => implRead_any T W (small_141 (Nat.le_trans HTs.out (by omega))) (HS.out.later h))
      rw [z2, z3] at HRb
      have HGo := hidS (fun W => implCheckGood_any (T.extract 0 20) W (small_141 (by rw [ByteArray.size_extract]; have := HTs.out; omega)))
      rw [z4] at HGo
      have eTn : (T.toList == []) = false := by
        rw [beq_eq_false_iff_ne]
        intro e
        have : T.toList.length = 0 := by rw [e]; rfl
        rw [toList_data] at this
        have h2 : T.size = T.data.toList.length := rfl
        omega
      have eTz : (20 : Int) ≤ (T.size : Int) := by omega
      clear z1 z2 z3 z4 HTy HTn hr HPs
      by_cases hc : C = 0
      · have e := HXt.out hc
        rw [e] at HXb
        subst hc
        clear e HXt
        refine grow_guarded 27 [.is (.string T), .is (.bool true), .is (.bool true), .is (.string T), .is (.agg #[.int .i64 p.src, .int .i64 p.dst, .int .i64 p.proto, .int .i64 p.a, .int .i64 p.b, .int .i64 p.kind, .int .i64 p.flags, .int .i64 p.seq, .int .i64 p.ack, .string p.body, .int .i64 0]), .is (.agg #[.int .i64 p.src, .int .i64 p.dst, .int .i64 p.proto, .int .i64 p.a, .int .i64 p.b, .int .i64 p.kind, .int .i64 p.flags, .int .i64 p.seq, .int .i64 p.ack, .string p.body]), .is (.agg #[.int .i64 p.src, .int .i64 p.dst, .int .i64 p.proto, .int .i64 p.a, .int .i64 p.b, .int .i64 p.kind, .int .i64 p.flags, .int .i64 p.seq, .int .i64 p.ack, .string p.body, .int .i64 0]), .is (.bool false), .is (.bool false), .is (.string T), .is (.string (T.extract 0 20)), .is (.bool true), .is (.bool false), .is (.bool false), .is (.bool false), .is (.bool false), .is (.pointer (some ⟨gx, 10, none⟩)), .is (.int .i64 0), .is (.bool true), .is (.bool true), .is (.pointer (some ⟨gx, 0, none⟩)), .is (.agg #[.int .i64 X.src, .int .i64 X.dst, .int .i64 X.proto, .int .i64 X.a, .int .i64 X.b, .int .i64 X.kind, .int .i64 X.flags, .int .i64 X.seq, .int .i64 X.ack, .string X.body]), .is (.string u), .is (.string u), .is (.bool false), .is (.bool false), .is (.bool false)] rfl (by kernel_rfl) (by kernel_rfl) ?steps13yy (fun v w hb hall => FIN.out v w hb (hall 26 (by decide)))
        case steps13yy =>
          refine ⟨?_, ?_, ?_, ?_, ?_, ?_, ?_, ?_, ?_, ?_, ?_, ?_, ?_, ?_, ?_, ?_, ?_, ?_, ?_, ?_, ?_, ?_, ?_, ?_, ?_, ?_, ?_, trivial⟩
          · refine stepW_of_u ⟨rfl, fun v W ρ hC kc kf ks ki kd => ?_⟩
            have t6 : ρ (.tmp 6) = .string T := ki 6 (by decide)
            simp [execOp, go_sem, kc, t6]
            exact ⟨hC, Below.refl _ _, rfl⟩
          · refine stepW_of_u ⟨rfl, fun v W ρ hC kc kf ks ki kd => ?_⟩
            have d0 : v 0 = .string T := by first | exact kd _ (Array.mem_of_getElem? (i := 0) rfl) rfl | exact kd _ (Array.mem_of_getElem? (i := 1) rfl) rfl | exact kd _ (Array.mem_of_getElem? (i := 2) rfl) rfl | exact kd _ (Array.mem_of_getElem? (i := 3) rfl) rfl | exact kd _ (Array.mem_of_getElem? (i := 4) rfl) rfl | exact kd _ (Array.mem_of_getElem? (i := 5) rfl) rfl
            have t66 : ρ (.tmp 66) = .string T := (ks 0 66 (by decide) rfl).trans d0
            simp [execOp, go_sem, kc, t66, eTn]
            exact ⟨hC, Below.refl _ _, rfl⟩
          · refine stepW_of_u ⟨rfl, fun v W ρ hC kc kf ks ki kd => ?_⟩
            have d1 : v 1 = .bool true := by first | exact kd _ (Array.mem_of_getElem? (i := 0) rfl) rfl | exact kd _ (Array.mem_of_getElem? (i := 1) rfl) rfl | exact kd _ (Array.mem_of_getElem? (i := 2) rfl) rfl | exact kd _ (Array.mem_of_getElem? (i := 3) rfl) rfl | exact kd _ (Array.mem_of_getElem? (i := 4) rfl) rfl | exact kd _ (Array.mem_of_getElem? (i := 5) rfl) rfl
            have t67 : ρ (.tmp 67) = .bool true := (ks 1 67 (by decide) rfl).trans d1
            simp [execOp, go_sem, kc, t67]
            exact ⟨hC, Below.refl _ _, rfl⟩
          · intro v W ρ y hC kc kf ks ki ky ku kd
            have dg : v 2 = .bool true := by first | exact kd _ (Array.mem_of_getElem? (i := 0) rfl) rfl | exact kd _ (Array.mem_of_getElem? (i := 1) rfl) rfl | exact kd _ (Array.mem_of_getElem? (i := 2) rfl) rfl | exact kd _ (Array.mem_of_getElem? (i := 3) rfl) rfl | exact kd _ (Array.mem_of_getElem? (i := 4) rfl) rfl | exact kd _ (Array.mem_of_getElem? (i := 5) rfl) rfl
            have hy := ky 2 68 true (by decide) rfl dg
            rw [if_pos (by simp [Region.wanted, hy])]
            have t6 : ρ (.tmp 6) = .string T := ki 6 (by decide)
            simp [execOp, go_sem, kc, t6]
            exact ⟨hC, Below.refl _ _, rfl⟩
          · intro v W ρ y hC kc kf ks ki ky ku kd
            have dg : v 2 = .bool true := by first | exact kd _ (Array.mem_of_getElem? (i := 0) rfl) rfl | exact kd _ (Array.mem_of_getElem? (i := 1) rfl) rfl | exact kd _ (Array.mem_of_getElem? (i := 2) rfl) rfl | exact kd _ (Array.mem_of_getElem? (i := 3) rfl) rfl | exact kd _ (Array.mem_of_getElem? (i := 4) rfl) rfl | exact kd _ (Array.mem_of_getElem? (i := 5) rfl) rfl
            have hy := ky 2 68 true (by decide) rfl dg
            rw [if_pos (by simp [Region.wanted, hy])]
            have d3 : v 3 = .string T := by first | exact kd _ (Array.mem_of_getElem? (i := 0) rfl) rfl | exact kd _ (Array.mem_of_getElem? (i := 1) rfl) rfl | exact kd _ (Array.mem_of_getElem? (i := 2) rfl) rfl | exact kd _ (Array.mem_of_getElem? (i := 3) rfl) rfl | exact kd _ (Array.mem_of_getElem? (i := 4) rfl) rfl | exact kd _ (Array.mem_of_getElem? (i := 5) rfl) rfl
            have t69 : ρ (.tmp 69) = .string T := (ks 3 69 (by decide) rfl).trans d3
            simp [execOp, go_sem, t69, kf]
            exact Calls.mono (HRb.out W (hL12.out.trans (hC.mono hL12.out.size))) (fun e x h => ⟨_, h.1, hC.trans (h.2.mono hC.size), h.2, rfl⟩)
          · intro v W ρ y hC kc kf ks ki ky ku kd
            have dg : v 2 = .bool true := by first | exact kd _ (Array.mem_of_getElem? (i := 0) rfl) rfl | exact kd _ (Array.mem_of_getElem? (i := 1) rfl) rfl | exact kd _ (Array.mem_of_getElem? (i := 2) rfl) rfl | exact kd _ (Array.mem_of_getElem? (i := 3) rfl) rfl | exact kd _ (Array.mem_of_getElem? (i := 4) rfl) rfl | exact kd _ (Array.mem_of_getElem? (i := 5) rfl) rfl
            have hy := ky 2 68 true (by decide) rfl dg
            rw [if_pos (by simp [Region.wanted, hy])]
            have t5 : ρ (.tmp 5) = .pointer (some ⟨gp, 0, none⟩) := ki 5 (by decide)
            have hg := blk_later hP12.out hC
            have c0 := blk_cell hg 0
            have c1 := blk_cell hg 1
            have c2 := blk_cell hg 2
            have c3 := blk_cell hg 3
            have c4 := blk_cell hg 4
            have c5 := blk_cell hg 5
            have c6 := blk_cell hg 6
            have c7 := blk_cell hg 7
            have c8 := blk_cell hg 8
            have c9 := blk_cell hg 9
            simp at c0 c1 c2 c3 c4 c5 c6 c7 c8 c9
            simp [execOp, go_sem, kc, t5, c0, c1, c2, c3, c4, c5, c6, c7, c8, c9]
            exact ⟨hC, Below.refl _ _, rfl⟩
          · intro v W ρ y hC kc kf ks ki ky ku kd
            have dg : v 2 = .bool true := by first | exact kd _ (Array.mem_of_getElem? (i := 0) rfl) rfl | exact kd _ (Array.mem_of_getElem? (i := 1) rfl) rfl | exact kd _ (Array.mem_of_getElem? (i := 2) rfl) rfl | exact kd _ (Array.mem_of_getElem? (i := 3) rfl) rfl | exact kd _ (Array.mem_of_getElem? (i := 4) rfl) rfl | exact kd _ (Array.mem_of_getElem? (i := 5) rfl) rfl
            have hy := ky 2 68 true (by decide) rfl dg
            rw [if_pos (by simp [Region.wanted, hy])]
            have d5 : v 5 = .agg #[.int .i64 p.src, .int .i64 p.dst, .int .i64 p.proto, .int .i64 p.a, .int .i64 p.b, .int .i64 p.kind, .int .i64 p.flags, .int .i64 p.seq, .int .i64 p.ack, .string p.body] := by first | exact kd _ (Array.mem_of_getElem? (i := 0) rfl) rfl | exact kd _ (Array.mem_of_getElem? (i := 1) rfl) rfl | exact kd _ (Array.mem_of_getElem? (i := 2) rfl) rfl | exact kd _ (Array.mem_of_getElem? (i := 3) rfl) rfl | exact kd _ (Array.mem_of_getElem? (i := 4) rfl) rfl | exact kd _ (Array.mem_of_getElem? (i := 5) rfl) rfl
            have t71 : ρ (.tmp 71) = .agg #[.int .i64 p.src, .int .i64 p.dst, .int .i64 p.proto, .int .i64 p.a, .int .i64 p.b, .int .i64 p.kind, .int .i64 p.flags, .int .i64 p.seq, .int .i64 p.ack, .string p.body] := (ks 5 71 (by decide) rfl).trans d5
            simp [execOp, go_sem, kc, t71]
            exact ⟨hC, Below.refl _ _, rfl⟩
          · intro v W ρ y hC kc kf ks ki ky ku kd
            have dg : v 2 = .bool true := by first | exact kd _ (Array.mem_of_getElem? (i := 0) rfl) rfl | exact kd _ (Array.mem_of_getElem? (i := 1) rfl) rfl | exact kd _ (Array.mem_of_getElem? (i := 2) rfl) rfl | exact kd _ (Array.mem_of_getElem? (i := 3) rfl) rfl | exact kd _ (Array.mem_of_getElem? (i := 4) rfl) rfl | exact kd _ (Array.mem_of_getElem? (i := 5) rfl) rfl
            have hy := ky 2 68 true (by decide) rfl dg
            rw [if_pos (by simp [Region.wanted, hy])]
            have d4 : v 4 = .agg #[.int .i64 p.src, .int .i64 p.dst, .int .i64 p.proto, .int .i64 p.a, .int .i64 p.b, .int .i64 p.kind, .int .i64 p.flags, .int .i64 p.seq, .int .i64 p.ack, .string p.body, .int .i64 0] := by first | exact kd _ (Array.mem_of_getElem? (i := 0) rfl) rfl | exact kd _ (Array.mem_of_getElem? (i := 1) rfl) rfl | exact kd _ (Array.mem_of_getElem? (i := 2) rfl) rfl | exact kd _ (Array.mem_of_getElem? (i := 3) rfl) rfl | exact kd _ (Array.mem_of_getElem? (i := 4) rfl) rfl | exact kd _ (Array.mem_of_getElem? (i := 5) rfl) rfl
            have t70 : ρ (.tmp 70) = .agg #[.int .i64 p.src, .int .i64 p.dst, .int .i64 p.proto, .int .i64 p.a, .int .i64 p.b, .int .i64 p.kind, .int .i64 p.flags, .int .i64 p.seq, .int .i64 p.ack, .string p.body, .int .i64 0] := (ks 4 70 (by decide) rfl).trans d4
            have d6 : v 6 = .agg #[.int .i64 p.src, .int .i64 p.dst, .int .i64 p.proto, .int .i64 p.a, .int .i64 p.b, .int .i64 p.kind, .int .i64 p.flags, .int .i64 p.seq, .int .i64 p.ack, .string p.body, .int .i64 0] := by first | exact kd _ (Array.mem_of_getElem? (i := 0) rfl) rfl | exact kd _ (Array.mem_of_getElem? (i := 1) rfl) rfl | exact kd _ (Array.mem_of_getElem? (i := 2) rfl) rfl | exact kd _ (Array.mem_of_getElem? (i := 3) rfl) rfl | exact kd _ (Array.mem_of_getElem? (i := 4) rfl) rfl | exact kd _ (Array.mem_of_getElem? (i := 5) rfl) rfl
            have t72 : ρ (.tmp 72) = .agg #[.int .i64 p.src, .int .i64 p.dst, .int .i64 p.proto, .int .i64 p.a, .int .i64 p.b, .int .i64 p.kind, .int .i64 p.flags, .int .i64 p.seq, .int .i64 p.ack, .string p.body, .int .i64 0] := (ks 6 72 (by decide) rfl).trans d6
            simp [execOp, go_sem, kc, t70, t72, neq_pko p 0 W]
            exact ⟨hC, Below.refl _ _, rfl⟩
          · intro v W ρ y hC kc kf ks ki ky ku kd
            have dg : v 2 = .bool true := by first | exact kd _ (Array.mem_of_getElem? (i := 0) rfl) rfl | exact kd _ (Array.mem_of_getElem? (i := 1) rfl) rfl | exact kd _ (Array.mem_of_getElem? (i := 2) rfl) rfl | exact kd _ (Array.mem_of_getElem? (i := 3) rfl) rfl | exact kd _ (Array.mem_of_getElem? (i := 4) rfl) rfl | exact kd _ (Array.mem_of_getElem? (i := 5) rfl) rfl
            have hy := ky 2 68 true (by decide) rfl dg
            rw [if_pos (by simp [Region.wanted, hy])]
            have d7 : v 7 = .bool false := by first | exact kd _ (Array.mem_of_getElem? (i := 0) rfl) rfl | exact kd _ (Array.mem_of_getElem? (i := 1) rfl) rfl | exact kd _ (Array.mem_of_getElem? (i := 2) rfl) rfl | exact kd _ (Array.mem_of_getElem? (i := 3) rfl) rfl | exact kd _ (Array.mem_of_getElem? (i := 4) rfl) rfl | exact kd _ (Array.mem_of_getElem? (i := 5) rfl) rfl
            have t73 : ρ (.tmp 73) = .bool false := (ks 7 73 (by decide) rfl).trans d7
            simp [execOp, go_sem, kc, t73]
            exact ⟨hC, Below.refl _ _, rfl⟩
          · intro v W ρ y hC kc kf ks ki ky ku kd
            have dg : v 8 = .bool false := by first | exact kd _ (Array.mem_of_getElem? (i := 0) rfl) rfl | exact kd _ (Array.mem_of_getElem? (i := 1) rfl) rfl | exact kd _ (Array.mem_of_getElem? (i := 2) rfl) rfl | exact kd _ (Array.mem_of_getElem? (i := 3) rfl) rfl | exact kd _ (Array.mem_of_getElem? (i := 4) rfl) rfl | exact kd _ (Array.mem_of_getElem? (i := 5) rfl) rfl
            have hy := ky 8 74 false (by decide) rfl dg
            rw [if_pos (by simp [Region.wanted, hy])]
            have t6 : ρ (.tmp 6) = .string T := ki 6 (by decide)
            simp [execOp, go_sem, kc, t6]
            exact ⟨hC, Below.refl _ _, rfl⟩
          · intro v W ρ y hC kc kf ks ki ky ku kd
            have dg : v 8 = .bool false := by first | exact kd _ (Array.mem_of_getElem? (i := 0) rfl) rfl | exact kd _ (Array.mem_of_getElem? (i := 1) rfl) rfl | exact kd _ (Array.mem_of_getElem? (i := 2) rfl) rfl | exact kd _ (Array.mem_of_getElem? (i := 3) rfl) rfl | exact kd _ (Array.mem_of_getElem? (i := 4) rfl) rfl | exact kd _ (Array.mem_of_getElem? (i := 5) rfl) rfl
            have hy := ky 8 74 false (by decide) rfl dg
            rw [if_pos (by simp [Region.wanted, hy])]
            have d9 : v 9 = .string T := by first | exact kd _ (Array.mem_of_getElem? (i := 0) rfl) rfl | exact kd _ (Array.mem_of_getElem? (i := 1) rfl) rfl | exact kd _ (Array.mem_of_getElem? (i := 2) rfl) rfl | exact kd _ (Array.mem_of_getElem? (i := 3) rfl) rfl | exact kd _ (Array.mem_of_getElem? (i := 4) rfl) rfl | exact kd _ (Array.mem_of_getElem? (i := 5) rfl) rfl
            have t75 : ρ (.tmp 75) = .string T := (ks 9 75 (by decide) rfl).trans d9
            simp [execOp, go_sem, kc, t75, eTz]
            exact ⟨hC, Below.refl _ _, rfl⟩
          · intro v W ρ y hC kc kf ks ki ky ku kd
            have dg : v 8 = .bool false := by first | exact kd _ (Array.mem_of_getElem? (i := 0) rfl) rfl | exact kd _ (Array.mem_of_getElem? (i := 1) rfl) rfl | exact kd _ (Array.mem_of_getElem? (i := 2) rfl) rfl | exact kd _ (Array.mem_of_getElem? (i := 3) rfl) rfl | exact kd _ (Array.mem_of_getElem? (i := 4) rfl) rfl | exact kd _ (Array.mem_of_getElem? (i := 5) rfl) rfl
            have hy := ky 8 74 false (by decide) rfl dg
            rw [if_pos (by simp [Region.wanted, hy])]
            have d10 : v 10 = .string (T.extract 0 20) := by first | exact kd _ (Array.mem_of_getElem? (i := 0) rfl) rfl | exact kd _ (Array.mem_of_getElem? (i := 1) rfl) rfl | exact kd _ (Array.mem_of_getElem? (i := 2) rfl) rfl | exact kd _ (Array.mem_of_getElem? (i := 3) rfl) rfl | exact kd _ (Array.mem_of_getElem? (i := 4) rfl) rfl | exact kd _ (Array.mem_of_getElem? (i := 5) rfl) rfl
            have t76 : ρ (.tmp 76) = .string (T.extract 0 20) := (ks 10 76 (by decide) rfl).trans d10
            simp [execOp, go_sem, t76, kf]
            exact Calls.mono (HGo.out W) (fun e x h => ⟨_, h.1, hC.trans (h.2.mono hC.size), h.2, rfl⟩)
          · intro v W ρ y hC kc kf ks ki ky ku kd
            have dg : v 8 = .bool false := by first | exact kd _ (Array.mem_of_getElem? (i := 0) rfl) rfl | exact kd _ (Array.mem_of_getElem? (i := 1) rfl) rfl | exact kd _ (Array.mem_of_getElem? (i := 2) rfl) rfl | exact kd _ (Array.mem_of_getElem? (i := 3) rfl) rfl | exact kd _ (Array.mem_of_getElem? (i := 4) rfl) rfl | exact kd _ (Array.mem_of_getElem? (i := 5) rfl) rfl
            have hy := ky 8 74 false (by decide) rfl dg
            rw [if_pos (by simp [Region.wanted, hy])]
            have d11 : v 11 = .bool true := by first | exact kd _ (Array.mem_of_getElem? (i := 0) rfl) rfl | exact kd _ (Array.mem_of_getElem? (i := 1) rfl) rfl | exact kd _ (Array.mem_of_getElem? (i := 2) rfl) rfl | exact kd _ (Array.mem_of_getElem? (i := 3) rfl) rfl | exact kd _ (Array.mem_of_getElem? (i := 4) rfl) rfl | exact kd _ (Array.mem_of_getElem? (i := 5) rfl) rfl
            have t77 : ρ (.tmp 77) = .bool true := (ks 11 77 (by decide) rfl).trans d11
            simp [execOp, go_sem, kc, t77]
            exact ⟨hC, Below.refl _ _, rfl⟩
          · intro v W ρ y hC kc kf ks ki ky ku kd
            have dg : v 2 = .bool true := by first | exact kd _ (Array.mem_of_getElem? (i := 0) rfl) rfl | exact kd _ (Array.mem_of_getElem? (i := 1) rfl) rfl | exact kd _ (Array.mem_of_getElem? (i := 2) rfl) rfl | exact kd _ (Array.mem_of_getElem? (i := 3) rfl) rfl | exact kd _ (Array.mem_of_getElem? (i := 4) rfl) rfl | exact kd _ (Array.mem_of_getElem? (i := 5) rfl) rfl
            have hy := ky 2 68 true (by decide) rfl dg
            rw [if_pos (by simp [Region.wanted, hy])]
            have d8 : v 8 = .bool false := by first | exact kd _ (Array.mem_of_getElem? (i := 0) rfl) rfl | exact kd _ (Array.mem_of_getElem? (i := 1) rfl) rfl | exact kd _ (Array.mem_of_getElem? (i := 2) rfl) rfl | exact kd _ (Array.mem_of_getElem? (i := 3) rfl) rfl | exact kd _ (Array.mem_of_getElem? (i := 4) rfl) rfl | exact kd _ (Array.mem_of_getElem? (i := 5) rfl) rfl
            have t74 : ρ (.tmp 74) = .bool false := (ks 8 74 (by decide) rfl).trans d8
            have d12 : v 12 = .bool false := by first | exact kd _ (Array.mem_of_getElem? (i := 0) rfl) rfl | exact kd _ (Array.mem_of_getElem? (i := 1) rfl) rfl | exact kd _ (Array.mem_of_getElem? (i := 2) rfl) rfl | exact kd _ (Array.mem_of_getElem? (i := 3) rfl) rfl | exact kd _ (Array.mem_of_getElem? (i := 4) rfl) rfl | exact kd _ (Array.mem_of_getElem? (i := 5) rfl) rfl
            have t78 : ρ (.tmp 78) = .bool false := (ks 12 78 (by decide) rfl).trans d12
            simp [execOp, go_sem, kc, t74, t78]
            exact ⟨hC, Below.refl _ _, rfl⟩
          · refine stepW_of_u ⟨rfl, fun v W ρ hC kc kf ks ki kd => ?_⟩
            have d2 : v 2 = .bool true := by first | exact kd _ (Array.mem_of_getElem? (i := 0) rfl) rfl | exact kd _ (Array.mem_of_getElem? (i := 1) rfl) rfl | exact kd _ (Array.mem_of_getElem? (i := 2) rfl) rfl | exact kd _ (Array.mem_of_getElem? (i := 3) rfl) rfl | exact kd _ (Array.mem_of_getElem? (i := 4) rfl) rfl | exact kd _ (Array.mem_of_getElem? (i := 5) rfl) rfl
            have t68 : ρ (.tmp 68) = .bool true := (ks 2 68 (by decide) rfl).trans d2
            have d13 : v 13 = .bool false := by first | exact kd _ (Array.mem_of_getElem? (i := 0) rfl) rfl | exact kd _ (Array.mem_of_getElem? (i := 1) rfl) rfl | exact kd _ (Array.mem_of_getElem? (i := 2) rfl) rfl | exact kd _ (Array.mem_of_getElem? (i := 3) rfl) rfl | exact kd _ (Array.mem_of_getElem? (i := 4) rfl) rfl | exact kd _ (Array.mem_of_getElem? (i := 5) rfl) rfl
            have t79 : ρ (.tmp 79) = .bool false := (ks 13 79 (by decide) rfl).trans d13
            simp [execOp, go_sem, kc, t68, t79]
            exact ⟨hC, Below.refl _ _, rfl⟩
          · refine stepW_of_u ⟨rfl, fun v W ρ hC kc kf ks ki kd => ?_⟩
            have d14 : v 14 = .bool false := by first | exact kd _ (Array.mem_of_getElem? (i := 0) rfl) rfl | exact kd _ (Array.mem_of_getElem? (i := 1) rfl) rfl | exact kd _ (Array.mem_of_getElem? (i := 2) rfl) rfl | exact kd _ (Array.mem_of_getElem? (i := 3) rfl) rfl | exact kd _ (Array.mem_of_getElem? (i := 4) rfl) rfl | exact kd _ (Array.mem_of_getElem? (i := 5) rfl) rfl
            have t80 : ρ (.tmp 80) = .bool false := (ks 14 80 (by decide) rfl).trans d14
            simp [execOp, go_sem, kc, t80]
            exact ⟨hC, Below.refl _ _, rfl⟩
          · intro v W ρ y hC kc kf ks ki ky ku kd
            have dg : v 15 = .bool false := by first | exact kd _ (Array.mem_of_getElem? (i := 0) rfl) rfl | exact kd _ (Array.mem_of_getElem? (i := 1) rfl) rfl | exact kd _ (Array.mem_of_getElem? (i := 2) rfl) rfl | exact kd _ (Array.mem_of_getElem? (i := 3) rfl) rfl | exact kd _ (Array.mem_of_getElem? (i := 4) rfl) rfl | exact kd _ (Array.mem_of_getElem? (i := 5) rfl) rfl
            have hy := ky 15 81 false (by decide) rfl dg
            rw [if_pos (by simp [Region.wanted, hy])]
            have t8 : ρ (.tmp 8) = .pointer (some ⟨gx, 0, none⟩) := ki 8 (by decide)
            simp [execOp, go_sem, kc, t8]
            exact ⟨hC, Below.refl _ _, rfl⟩
          · intro v W ρ y hC kc kf ks ki ky ku kd
            have dg : v 15 = .bool false := by first | exact kd _ (Array.mem_of_getElem? (i := 0) rfl) rfl | exact kd _ (Array.mem_of_getElem? (i := 1) rfl) rfl | exact kd _ (Array.mem_of_getElem? (i := 2) rfl) rfl | exact kd _ (Array.mem_of_getElem? (i := 3) rfl) rfl | exact kd _ (Array.mem_of_getElem? (i := 4) rfl) rfl | exact kd _ (Array.mem_of_getElem? (i := 5) rfl) rfl
            have hy := ky 15 81 false (by decide) rfl dg
            rw [if_pos (by simp [Region.wanted, hy])]
            have d16 : v 16 = .pointer (some ⟨gx, 10, none⟩) := by first | exact kd _ (Array.mem_of_getElem? (i := 0) rfl) rfl | exact kd _ (Array.mem_of_getElem? (i := 1) rfl) rfl | exact kd _ (Array.mem_of_getElem? (i := 2) rfl) rfl | exact kd _ (Array.mem_of_getElem? (i := 3) rfl) rfl | exact kd _ (Array.mem_of_getElem? (i := 4) rfl) rfl | exact kd _ (Array.mem_of_getElem? (i := 5) rfl) rfl
            have t82 : ρ (.tmp 82) = .pointer (some ⟨gx, 10, none⟩) := (ks 16 82 (by decide) rfl).trans d16
            have hg := blk_later hX12.out hC
            have c10 := blk_cell hg 10
            simp at c10
            simp [execOp, go_sem, kc, t82, c10]
            exact ⟨hC, Below.refl _ _, rfl⟩
          · intro v W ρ y hC kc kf ks ki ky ku kd
            have dg : v 15 = .bool false := by first | exact kd _ (Array.mem_of_getElem? (i := 0) rfl) rfl | exact kd _ (Array.mem_of_getElem? (i := 1) rfl) rfl | exact kd _ (Array.mem_of_getElem? (i := 2) rfl) rfl | exact kd _ (Array.mem_of_getElem? (i := 3) rfl) rfl | exact kd _ (Array.mem_of_getElem? (i := 4) rfl) rfl | exact kd _ (Array.mem_of_getElem? (i := 5) rfl) rfl
            have hy := ky 15 81 false (by decide) rfl dg
            rw [if_pos (by simp [Region.wanted, hy])]
            have d17 : v 17 = .int .i64 0 := by first | exact kd _ (Array.mem_of_getElem? (i := 0) rfl) rfl | exact kd _ (Array.mem_of_getElem? (i := 1) rfl) rfl | exact kd _ (Array.mem_of_getElem? (i := 2) rfl) rfl | exact kd _ (Array.mem_of_getElem? (i := 3) rfl) rfl | exact kd _ (Array.mem_of_getElem? (i := 4) rfl) rfl | exact kd _ (Array.mem_of_getElem? (i := 5) rfl) rfl
            have t83 : ρ (.tmp 83) = .int .i64 0 := (ks 17 83 (by decide) rfl).trans d17
            simp [execOp, go_sem, kc, t83]
            exact ⟨hC, Below.refl _ _, rfl⟩
          · intro v W ρ y hC kc kf ks ki ky ku kd
            have dg : v 15 = .bool false := by first | exact kd _ (Array.mem_of_getElem? (i := 0) rfl) rfl | exact kd _ (Array.mem_of_getElem? (i := 1) rfl) rfl | exact kd _ (Array.mem_of_getElem? (i := 2) rfl) rfl | exact kd _ (Array.mem_of_getElem? (i := 3) rfl) rfl | exact kd _ (Array.mem_of_getElem? (i := 4) rfl) rfl | exact kd _ (Array.mem_of_getElem? (i := 5) rfl) rfl
            have hy := ky 15 81 false (by decide) rfl dg
            rw [if_pos (by simp [Region.wanted, hy])]
            have d18 : v 18 = .bool true := by first | exact kd _ (Array.mem_of_getElem? (i := 0) rfl) rfl | exact kd _ (Array.mem_of_getElem? (i := 1) rfl) rfl | exact kd _ (Array.mem_of_getElem? (i := 2) rfl) rfl | exact kd _ (Array.mem_of_getElem? (i := 3) rfl) rfl | exact kd _ (Array.mem_of_getElem? (i := 4) rfl) rfl | exact kd _ (Array.mem_of_getElem? (i := 5) rfl) rfl
            have t84 : ρ (.tmp 84) = .bool true := (ks 18 84 (by decide) rfl).trans d18
            simp [execOp, go_sem, kc, t84]
            exact ⟨hC, Below.refl _ _, rfl⟩
          · intro v W ρ y hC kc kf ks ki ky ku kd
            have dg : v 19 = .bool true := by first | exact kd _ (Array.mem_of_getElem? (i := 0) rfl) rfl | exact kd _ (Array.mem_of_getElem? (i := 1) rfl) rfl | exact kd _ (Array.mem_of_getElem? (i := 2) rfl) rfl | exact kd _ (Array.mem_of_getElem? (i := 3) rfl) rfl | exact kd _ (Array.mem_of_getElem? (i := 4) rfl) rfl | exact kd _ (Array.mem_of_getElem? (i := 5) rfl) rfl
            have hy := ky 19 85 true (by decide) rfl dg
            rw [if_pos (by simp [Region.wanted, hy])]
            have t8 : ρ (.tmp 8) = .pointer (some ⟨gx, 0, none⟩) := ki 8 (by decide)
            simp [execOp, go_sem, kc, t8]
            exact ⟨hC, Below.refl _ _, rfl⟩
          · intro v W ρ y hC kc kf ks ki ky ku kd
            have dg : v 19 = .bool true := by first | exact kd _ (Array.mem_of_getElem? (i := 0) rfl) rfl | exact kd _ (Array.mem_of_getElem? (i := 1) rfl) rfl | exact kd _ (Array.mem_of_getElem? (i := 2) rfl) rfl | exact kd _ (Array.mem_of_getElem? (i := 3) rfl) rfl | exact kd _ (Array.mem_of_getElem? (i := 4) rfl) rfl | exact kd _ (Array.mem_of_getElem? (i := 5) rfl) rfl
            have hy := ky 19 85 true (by decide) rfl dg
            rw [if_pos (by simp [Region.wanted, hy])]
            have d20 : v 20 = .pointer (some ⟨gx, 0, none⟩) := by first | exact kd _ (Array.mem_of_getElem? (i := 0) rfl) rfl | exact kd _ (Array.mem_of_getElem? (i := 1) rfl) rfl | exact kd _ (Array.mem_of_getElem? (i := 2) rfl) rfl | exact kd _ (Array.mem_of_getElem? (i := 3) rfl) rfl | exact kd _ (Array.mem_of_getElem? (i := 4) rfl) rfl | exact kd _ (Array.mem_of_getElem? (i := 5) rfl) rfl
            have t86 : ρ (.tmp 86) = .pointer (some ⟨gx, 0, none⟩) := (ks 20 86 (by decide) rfl).trans d20
            have hg := blk_later hX12.out hC
            have c0 := blk_cell hg 0
            have c1 := blk_cell hg 1
            have c2 := blk_cell hg 2
            have c3 := blk_cell hg 3
            have c4 := blk_cell hg 4
            have c5 := blk_cell hg 5
            have c6 := blk_cell hg 6
            have c7 := blk_cell hg 7
            have c8 := blk_cell hg 8
            have c9 := blk_cell hg 9
            simp at c0 c1 c2 c3 c4 c5 c6 c7 c8 c9
            simp [execOp, go_sem, kc, t86, c0, c1, c2, c3, c4, c5, c6, c7, c8, c9]
            exact ⟨hC, Below.refl _ _, rfl⟩
          · intro v W ρ y hC kc kf ks ki ky ku kd
            have dg : v 19 = .bool true := by first | exact kd _ (Array.mem_of_getElem? (i := 0) rfl) rfl | exact kd _ (Array.mem_of_getElem? (i := 1) rfl) rfl | exact kd _ (Array.mem_of_getElem? (i := 2) rfl) rfl | exact kd _ (Array.mem_of_getElem? (i := 3) rfl) rfl | exact kd _ (Array.mem_of_getElem? (i := 4) rfl) rfl | exact kd _ (Array.mem_of_getElem? (i := 5) rfl) rfl
            have hy := ky 19 85 true (by decide) rfl dg
            rw [if_pos (by simp [Region.wanted, hy])]
            have d21 : v 21 = .agg #[.int .i64 X.src, .int .i64 X.dst, .int .i64 X.proto, .int .i64 X.a, .int .i64 X.b, .int .i64 X.kind, .int .i64 X.flags, .int .i64 X.seq, .int .i64 X.ack, .string X.body] := by first | exact kd _ (Array.mem_of_getElem? (i := 0) rfl) rfl | exact kd _ (Array.mem_of_getElem? (i := 1) rfl) rfl | exact kd _ (Array.mem_of_getElem? (i := 2) rfl) rfl | exact kd _ (Array.mem_of_getElem? (i := 3) rfl) rfl | exact kd _ (Array.mem_of_getElem? (i := 4) rfl) rfl | exact kd _ (Array.mem_of_getElem? (i := 5) rfl) rfl
            have t87 : ρ (.tmp 87) = .agg #[.int .i64 X.src, .int .i64 X.dst, .int .i64 X.proto, .int .i64 X.a, .int .i64 X.b, .int .i64 X.kind, .int .i64 X.flags, .int .i64 X.seq, .int .i64 X.ack, .string X.body] := (ks 21 87 (by decide) rfl).trans d21
            simp [execOp, go_sem, t87, kf]
            exact Calls.mono (HXb.out W) (fun e x h => ⟨_, h.1, hC.trans (h.2.mono hC.size), h.2, rfl⟩)
          · intro v W ρ y hC kc kf ks ki ky ku kd
            have dg : v 19 = .bool true := by first | exact kd _ (Array.mem_of_getElem? (i := 0) rfl) rfl | exact kd _ (Array.mem_of_getElem? (i := 1) rfl) rfl | exact kd _ (Array.mem_of_getElem? (i := 2) rfl) rfl | exact kd _ (Array.mem_of_getElem? (i := 3) rfl) rfl | exact kd _ (Array.mem_of_getElem? (i := 4) rfl) rfl | exact kd _ (Array.mem_of_getElem? (i := 5) rfl) rfl
            have hy := ky 19 85 true (by decide) rfl dg
            rw [if_pos (by simp [Region.wanted, hy])]
            have t7 : ρ (.tmp 7) = .string u := ki 7 (by decide)
            simp [execOp, go_sem, kc, t7]
            exact ⟨hC, Below.refl _ _, rfl⟩
          · intro v W ρ y hC kc kf ks ki ky ku kd
            have dg : v 19 = .bool true := by first | exact kd _ (Array.mem_of_getElem? (i := 0) rfl) rfl | exact kd _ (Array.mem_of_getElem? (i := 1) rfl) rfl | exact kd _ (Array.mem_of_getElem? (i := 2) rfl) rfl | exact kd _ (Array.mem_of_getElem? (i := 3) rfl) rfl | exact kd _ (Array.mem_of_getElem? (i := 4) rfl) rfl | exact kd _ (Array.mem_of_getElem? (i := 5) rfl) rfl
            have hy := ky 19 85 true (by decide) rfl dg
            rw [if_pos (by simp [Region.wanted, hy])]
            have d22 : v 22 = .string u := by first | exact kd _ (Array.mem_of_getElem? (i := 0) rfl) rfl | exact kd _ (Array.mem_of_getElem? (i := 1) rfl) rfl | exact kd _ (Array.mem_of_getElem? (i := 2) rfl) rfl | exact kd _ (Array.mem_of_getElem? (i := 3) rfl) rfl | exact kd _ (Array.mem_of_getElem? (i := 4) rfl) rfl | exact kd _ (Array.mem_of_getElem? (i := 5) rfl) rfl
            have t88 : ρ (.tmp 88) = .string u := (ks 22 88 (by decide) rfl).trans d22
            have d23 : v 23 = .string u := by first | exact kd _ (Array.mem_of_getElem? (i := 0) rfl) rfl | exact kd _ (Array.mem_of_getElem? (i := 1) rfl) rfl | exact kd _ (Array.mem_of_getElem? (i := 2) rfl) rfl | exact kd _ (Array.mem_of_getElem? (i := 3) rfl) rfl | exact kd _ (Array.mem_of_getElem? (i := 4) rfl) rfl | exact kd _ (Array.mem_of_getElem? (i := 5) rfl) rfl
            have t89 : ρ (.tmp 89) = .string u := (ks 23 89 (by decide) rfl).trans d23
            simp [execOp, go_sem, kc, t88, t89]
            exact ⟨hC, Below.refl _ _, rfl⟩
          · intro v W ρ y hC kc kf ks ki ky ku kd
            have dg : v 15 = .bool false := by first | exact kd _ (Array.mem_of_getElem? (i := 0) rfl) rfl | exact kd _ (Array.mem_of_getElem? (i := 1) rfl) rfl | exact kd _ (Array.mem_of_getElem? (i := 2) rfl) rfl | exact kd _ (Array.mem_of_getElem? (i := 3) rfl) rfl | exact kd _ (Array.mem_of_getElem? (i := 4) rfl) rfl | exact kd _ (Array.mem_of_getElem? (i := 5) rfl) rfl
            have hy := ky 15 81 false (by decide) rfl dg
            rw [if_pos (by simp [Region.wanted, hy])]
            have d19 : v 19 = .bool true := by first | exact kd _ (Array.mem_of_getElem? (i := 0) rfl) rfl | exact kd _ (Array.mem_of_getElem? (i := 1) rfl) rfl | exact kd _ (Array.mem_of_getElem? (i := 2) rfl) rfl | exact kd _ (Array.mem_of_getElem? (i := 3) rfl) rfl | exact kd _ (Array.mem_of_getElem? (i := 4) rfl) rfl | exact kd _ (Array.mem_of_getElem? (i := 5) rfl) rfl
            have t85 : ρ (.tmp 85) = .bool true := (ks 19 85 (by decide) rfl).trans d19
            have d24 : v 24 = .bool false := by first | exact kd _ (Array.mem_of_getElem? (i := 0) rfl) rfl | exact kd _ (Array.mem_of_getElem? (i := 1) rfl) rfl | exact kd _ (Array.mem_of_getElem? (i := 2) rfl) rfl | exact kd _ (Array.mem_of_getElem? (i := 3) rfl) rfl | exact kd _ (Array.mem_of_getElem? (i := 4) rfl) rfl | exact kd _ (Array.mem_of_getElem? (i := 5) rfl) rfl
            have t90 : ρ (.tmp 90) = .bool false := (ks 24 90 (by decide) rfl).trans d24
            simp [execOp, go_sem, kc, t85, t90]
            exact ⟨hC, Below.refl _ _, rfl⟩
          · refine stepW_of_u ⟨rfl, fun v W ρ hC kc kf ks ki kd => ?_⟩
            have d15 : v 15 = .bool false := by first | exact kd _ (Array.mem_of_getElem? (i := 0) rfl) rfl | exact kd _ (Array.mem_of_getElem? (i := 1) rfl) rfl | exact kd _ (Array.mem_of_getElem? (i := 2) rfl) rfl | exact kd _ (Array.mem_of_getElem? (i := 3) rfl) rfl | exact kd _ (Array.mem_of_getElem? (i := 4) rfl) rfl | exact kd _ (Array.mem_of_getElem? (i := 5) rfl) rfl
            have t81 : ρ (.tmp 81) = .bool false := (ks 15 81 (by decide) rfl).trans d15
            have d25 : v 25 = .bool false := by first | exact kd _ (Array.mem_of_getElem? (i := 0) rfl) rfl | exact kd _ (Array.mem_of_getElem? (i := 1) rfl) rfl | exact kd _ (Array.mem_of_getElem? (i := 2) rfl) rfl | exact kd _ (Array.mem_of_getElem? (i := 3) rfl) rfl | exact kd _ (Array.mem_of_getElem? (i := 4) rfl) rfl | exact kd _ (Array.mem_of_getElem? (i := 5) rfl) rfl
            have t91 : ρ (.tmp 91) = .bool false := (ks 25 91 (by decide) rfl).trans d25
            simp [execOp, go_sem, kc, t81, t91]
            exact ⟨hC, Below.refl _ _, rfl⟩
      · have eC : (C == 0) = false := beq_eq_false_iff_ne.2 hc
        clear hc HXt HXb
        refine grow_guarded 27 [.is (.string T), .is (.bool true), .is (.bool true), .is (.string T), .is (.agg #[.int .i64 p.src, .int .i64 p.dst, .int .i64 p.proto, .int .i64 p.a, .int .i64 p.b, .int .i64 p.kind, .int .i64 p.flags, .int .i64 p.seq, .int .i64 p.ack, .string p.body, .int .i64 0]), .is (.agg #[.int .i64 p.src, .int .i64 p.dst, .int .i64 p.proto, .int .i64 p.a, .int .i64 p.b, .int .i64 p.kind, .int .i64 p.flags, .int .i64 p.seq, .int .i64 p.ack, .string p.body]), .is (.agg #[.int .i64 p.src, .int .i64 p.dst, .int .i64 p.proto, .int .i64 p.a, .int .i64 p.b, .int .i64 p.kind, .int .i64 p.flags, .int .i64 p.seq, .int .i64 p.ack, .string p.body, .int .i64 0]), .is (.bool false), .is (.bool false), .is (.string T), .is (.string (T.extract 0 20)), .is (.bool true), .is (.bool false), .is (.bool false), .is (.bool false), .is (.bool false), .is (.pointer (some ⟨gx, 10, none⟩)), .is (.int .i64 C), .is (.bool false), .is (.bool false), .is (undef), .is (undef), .is (undef), .is (undef), .is (undef), .is (.bool false), .is (.bool false)] rfl (by kernel_rfl) (by kernel_rfl) ?steps13yn (fun v w hb hall => FIN.out v w hb (hall 26 (by decide)))
        case steps13yn =>
          refine ⟨?_, ?_, ?_, ?_, ?_, ?_, ?_, ?_, ?_, ?_, ?_, ?_, ?_, ?_, ?_, ?_, ?_, ?_, ?_, ?_, ?_, ?_, ?_, ?_, ?_, ?_, ?_, trivial⟩
          · refine stepW_of_u ⟨rfl, fun v W ρ hC kc kf ks ki kd => ?_⟩
            have t6 : ρ (.tmp 6) = .string T := ki 6 (by decide)
            simp [execOp, go_sem, kc, t6]
            exact ⟨hC, Below.refl _ _, rfl⟩
          · refine stepW_of_u ⟨rfl, fun v W ρ hC kc kf ks ki kd => ?_⟩
            have d0 : v 0 = .string T := by first | exact kd _ (Array.mem_of_getElem? (i := 0) rfl) rfl | exact kd _ (Array.mem_of_getElem? (i := 1) rfl) rfl | exact kd _ (Array.mem_of_getElem? (i := 2) rfl) rfl | exact kd _ (Array.mem_of_getElem? (i := 3) rfl) rfl | exact kd _ (Array.mem_of_getElem? (i := 4) rfl) rfl | exact kd _ (Array.mem_of_getElem? (i := 5) rfl) rfl
            have t66 : ρ (.tmp 66) = .string T := (ks 0 66 (by decide) rfl).trans d0
            simp [execOp, go_sem, kc, t66, eTn]
            exact ⟨hC, Below.refl _ _, rfl⟩
          · refine stepW_of_u ⟨rfl, fun v W ρ hC kc kf ks ki kd => ?_⟩
            have d1 : v 1 = .bool true := by first | exact kd _ (Array.mem_of_getElem? (i := 0) rfl) rfl | exact kd _ (Array.mem_of_getElem? (i := 1) rfl) rfl | exact kd _ (Array.mem_of_getElem? (i := 2) rfl) rfl | exact kd _ (Array.mem_of_getElem? (i := 3) rfl) rfl | exact kd _ (Array.mem_of_getElem? (i := 4) rfl) rfl | exact kd _ (Array.mem_of_getElem? (i := 5) rfl) rfl
            have t67 : ρ (.tmp 67) = .bool true := (ks 1 67 (by decide) rfl).trans d1
            simp [execOp, go_sem, kc, t67]
            exact ⟨hC, Below.refl _ _, rfl⟩
          · intro v W ρ y hC kc kf ks ki ky ku kd
            have dg : v 2 = .bool true := by first | exact kd _ (Array.mem_of_getElem? (i := 0) rfl) rfl | exact kd _ (Array.mem_of_getElem? (i := 1) rfl) rfl | exact kd _ (Array.mem_of_getElem? (i := 2) rfl) rfl | exact kd _ (Array.mem_of_getElem? (i := 3) rfl) rfl | exact kd _ (Array.mem_of_getElem? (i := 4) rfl) rfl | exact kd _ (Array.mem_of_getElem? (i := 5) rfl) rfl
            have hy := ky 2 68 true (by decide) rfl dg
            rw [if_pos (by simp [Region.wanted, hy])]
            have t6 : ρ (.tmp 6) = .string T := ki 6 (by decide)
            simp [execOp, go_sem, kc, t6]
            exact ⟨hC, Below.refl _ _, rfl⟩
          · intro v W ρ y hC kc kf ks ki ky ku kd
            have dg : v 2 = .bool true := by first | exact kd _ (Array.mem_of_getElem? (i := 0) rfl) rfl | exact kd _ (Array.mem_of_getElem? (i := 1) rfl) rfl | exact kd _ (Array.mem_of_getElem? (i := 2) rfl) rfl | exact kd _ (Array.mem_of_getElem? (i := 3) rfl) rfl | exact kd _ (Array.mem_of_getElem? (i := 4) rfl) rfl | exact kd _ (Array.mem_of_getElem? (i := 5) rfl) rfl
            have hy := ky 2 68 true (by decide) rfl dg
            rw [if_pos (by simp [Region.wanted, hy])]
            have d3 : v 3 = .string T := by first | exact kd _ (Array.mem_of_getElem? (i := 0) rfl) rfl | exact kd _ (Array.mem_of_getElem? (i := 1) rfl) rfl | exact kd _ (Array.mem_of_getElem? (i := 2) rfl) rfl | exact kd _ (Array.mem_of_getElem? (i := 3) rfl) rfl | exact kd _ (Array.mem_of_getElem? (i := 4) rfl) rfl | exact kd _ (Array.mem_of_getElem? (i := 5) rfl) rfl
            have t69 : ρ (.tmp 69) = .string T := (ks 3 69 (by decide) rfl).trans d3
            simp [execOp, go_sem, t69, kf]
            exact Calls.mono (HRb.out W (hL12.out.trans (hC.mono hL12.out.size))) (fun e x h => ⟨_, h.1, hC.trans (h.2.mono hC.size), h.2, rfl⟩)
          · intro v W ρ y hC kc kf ks ki ky ku kd
            have dg : v 2 = .bool true := by first | exact kd _ (Array.mem_of_getElem? (i := 0) rfl) rfl | exact kd _ (Array.mem_of_getElem? (i := 1) rfl) rfl | exact kd _ (Array.mem_of_getElem? (i := 2) rfl) rfl | exact kd _ (Array.mem_of_getElem? (i := 3) rfl) rfl | exact kd _ (Array.mem_of_getElem? (i := 4) rfl) rfl | exact kd _ (Array.mem_of_getElem? (i := 5) rfl) rfl
            have hy := ky 2 68 true (by decide) rfl dg
            rw [if_pos (by simp [Region.wanted, hy])]
            have t5 : ρ (.tmp 5) = .pointer (some ⟨gp, 0, none⟩) := ki 5 (by decide)
            have hg := blk_later hP12.out hC
            have c0 := blk_cell hg 0
            have c1 := blk_cell hg 1
            have c2 := blk_cell hg 2
            have c3 := blk_cell hg 3
            have c4 := blk_cell hg 4
            have c5 := blk_cell hg 5
            have c6 := blk_cell hg 6
            have c7 := blk_cell hg 7
            have c8 := blk_cell hg 8
            have c9 := blk_cell hg 9
            simp at c0 c1 c2 c3 c4 c5 c6 c7 c8 c9
            simp [execOp, go_sem, kc, t5, c0, c1, c2, c3, c4, c5, c6, c7, c8, c9]
            exact ⟨hC, Below.refl _ _, rfl⟩
          · intro v W ρ y hC kc kf ks ki ky ku kd
            have dg : v 2 = .bool true := by first | exact kd _ (Array.mem_of_getElem? (i := 0) rfl) rfl | exact kd _ (Array.mem_of_getElem? (i := 1) rfl) rfl | exact kd _ (Array.mem_of_getElem? (i := 2) rfl) rfl | exact kd _ (Array.mem_of_getElem? (i := 3) rfl) rfl | exact kd _ (Array.mem_of_getElem? (i := 4) rfl) rfl | exact kd _ (Array.mem_of_getElem? (i := 5) rfl) rfl
            have hy := ky 2 68 true (by decide) rfl dg
            rw [if_pos (by simp [Region.wanted, hy])]
            have d5 : v 5 = .agg #[.int .i64 p.src, .int .i64 p.dst, .int .i64 p.proto, .int .i64 p.a, .int .i64 p.b, .int .i64 p.kind, .int .i64 p.flags, .int .i64 p.seq, .int .i64 p.ack, .string p.body] := by first | exact kd _ (Array.mem_of_getElem? (i := 0) rfl) rfl | exact kd _ (Array.mem_of_getElem? (i := 1) rfl) rfl | exact kd _ (Array.mem_of_getElem? (i := 2) rfl) rfl | exact kd _ (Array.mem_of_getElem? (i := 3) rfl) rfl | exact kd _ (Array.mem_of_getElem? (i := 4) rfl) rfl | exact kd _ (Array.mem_of_getElem? (i := 5) rfl) rfl
            have t71 : ρ (.tmp 71) = .agg #[.int .i64 p.src, .int .i64 p.dst, .int .i64 p.proto, .int .i64 p.a, .int .i64 p.b, .int .i64 p.kind, .int .i64 p.flags, .int .i64 p.seq, .int .i64 p.ack, .string p.body] := (ks 5 71 (by decide) rfl).trans d5
            simp [execOp, go_sem, kc, t71]
            exact ⟨hC, Below.refl _ _, rfl⟩
          · intro v W ρ y hC kc kf ks ki ky ku kd
            have dg : v 2 = .bool true := by first | exact kd _ (Array.mem_of_getElem? (i := 0) rfl) rfl | exact kd _ (Array.mem_of_getElem? (i := 1) rfl) rfl | exact kd _ (Array.mem_of_getElem? (i := 2) rfl) rfl | exact kd _ (Array.mem_of_getElem? (i := 3) rfl) rfl | exact kd _ (Array.mem_of_getElem? (i := 4) rfl) rfl | exact kd _ (Array.mem_of_getElem? (i := 5) rfl) rfl
            have hy := ky 2 68 true (by decide) rfl dg
            rw [if_pos (by simp [Region.wanted, hy])]
            have d4 : v 4 = .agg #[.int .i64 p.src, .int .i64 p.dst, .int .i64 p.proto, .int .i64 p.a, .int .i64 p.b, .int .i64 p.kind, .int .i64 p.flags, .int .i64 p.seq, .int .i64 p.ack, .string p.body, .int .i64 0] := by first | exact kd _ (Array.mem_of_getElem? (i := 0) rfl) rfl | exact kd _ (Array.mem_of_getElem? (i := 1) rfl) rfl | exact kd _ (Array.mem_of_getElem? (i := 2) rfl) rfl | exact kd _ (Array.mem_of_getElem? (i := 3) rfl) rfl | exact kd _ (Array.mem_of_getElem? (i := 4) rfl) rfl | exact kd _ (Array.mem_of_getElem? (i := 5) rfl) rfl
            have t70 : ρ (.tmp 70) = .agg #[.int .i64 p.src, .int .i64 p.dst, .int .i64 p.proto, .int .i64 p.a, .int .i64 p.b, .int .i64 p.kind, .int .i64 p.flags, .int .i64 p.seq, .int .i64 p.ack, .string p.body, .int .i64 0] := (ks 4 70 (by decide) rfl).trans d4
            have d6 : v 6 = .agg #[.int .i64 p.src, .int .i64 p.dst, .int .i64 p.proto, .int .i64 p.a, .int .i64 p.b, .int .i64 p.kind, .int .i64 p.flags, .int .i64 p.seq, .int .i64 p.ack, .string p.body, .int .i64 0] := by first | exact kd _ (Array.mem_of_getElem? (i := 0) rfl) rfl | exact kd _ (Array.mem_of_getElem? (i := 1) rfl) rfl | exact kd _ (Array.mem_of_getElem? (i := 2) rfl) rfl | exact kd _ (Array.mem_of_getElem? (i := 3) rfl) rfl | exact kd _ (Array.mem_of_getElem? (i := 4) rfl) rfl | exact kd _ (Array.mem_of_getElem? (i := 5) rfl) rfl
            have t72 : ρ (.tmp 72) = .agg #[.int .i64 p.src, .int .i64 p.dst, .int .i64 p.proto, .int .i64 p.a, .int .i64 p.b, .int .i64 p.kind, .int .i64 p.flags, .int .i64 p.seq, .int .i64 p.ack, .string p.body, .int .i64 0] := (ks 6 72 (by decide) rfl).trans d6
            simp [execOp, go_sem, kc, t70, t72, neq_pko p 0 W]
            exact ⟨hC, Below.refl _ _, rfl⟩
          · intro v W ρ y hC kc kf ks ki ky ku kd
            have dg : v 2 = .bool true := by first | exact kd _ (Array.mem_of_getElem? (i := 0) rfl) rfl | exact kd _ (Array.mem_of_getElem? (i := 1) rfl) rfl | exact kd _ (Array.mem_of_getElem? (i := 2) rfl) rfl | exact kd _ (Array.mem_of_getElem? (i := 3) rfl) rfl | exact kd _ (Array.mem_of_getElem? (i := 4) rfl) rfl | exact kd _ (Array.mem_of_getElem? (i := 5) rfl) rfl
            have hy := ky 2 68 true (by decide) rfl dg
            rw [if_pos (by simp [Region.wanted, hy])]
            have d7 : v 7 = .bool false := by first | exact kd _ (Array.mem_of_getElem? (i := 0) rfl) rfl | exact kd _ (Array.mem_of_getElem? (i := 1) rfl) rfl | exact kd _ (Array.mem_of_getElem? (i := 2) rfl) rfl | exact kd _ (Array.mem_of_getElem? (i := 3) rfl) rfl | exact kd _ (Array.mem_of_getElem? (i := 4) rfl) rfl | exact kd _ (Array.mem_of_getElem? (i := 5) rfl) rfl
            have t73 : ρ (.tmp 73) = .bool false := (ks 7 73 (by decide) rfl).trans d7
            simp [execOp, go_sem, kc, t73]
            exact ⟨hC, Below.refl _ _, rfl⟩
          · intro v W ρ y hC kc kf ks ki ky ku kd
            have dg : v 8 = .bool false := by first | exact kd _ (Array.mem_of_getElem? (i := 0) rfl) rfl | exact kd _ (Array.mem_of_getElem? (i := 1) rfl) rfl | exact kd _ (Array.mem_of_getElem? (i := 2) rfl) rfl | exact kd _ (Array.mem_of_getElem? (i := 3) rfl) rfl | exact kd _ (Array.mem_of_getElem? (i := 4) rfl) rfl | exact kd _ (Array.mem_of_getElem? (i := 5) rfl) rfl
            have hy := ky 8 74 false (by decide) rfl dg
            rw [if_pos (by simp [Region.wanted, hy])]
            have t6 : ρ (.tmp 6) = .string T := ki 6 (by decide)
            simp [execOp, go_sem, kc, t6]
            exact ⟨hC, Below.refl _ _, rfl⟩
          · intro v W ρ y hC kc kf ks ki ky ku kd
            have dg : v 8 = .bool false := by first | exact kd _ (Array.mem_of_getElem? (i := 0) rfl) rfl | exact kd _ (Array.mem_of_getElem? (i := 1) rfl) rfl | exact kd _ (Array.mem_of_getElem? (i := 2) rfl) rfl | exact kd _ (Array.mem_of_getElem? (i := 3) rfl) rfl | exact kd _ (Array.mem_of_getElem? (i := 4) rfl) rfl | exact kd _ (Array.mem_of_getElem? (i := 5) rfl) rfl
            have hy := ky 8 74 false (by decide) rfl dg
            rw [if_pos (by simp [Region.wanted, hy])]
            have d9 : v 9 = .string T := by first | exact kd _ (Array.mem_of_getElem? (i := 0) rfl) rfl | exact kd _ (Array.mem_of_getElem? (i := 1) rfl) rfl | exact kd _ (Array.mem_of_getElem? (i := 2) rfl) rfl | exact kd _ (Array.mem_of_getElem? (i := 3) rfl) rfl | exact kd _ (Array.mem_of_getElem? (i := 4) rfl) rfl | exact kd _ (Array.mem_of_getElem? (i := 5) rfl) rfl
            have t75 : ρ (.tmp 75) = .string T := (ks 9 75 (by decide) rfl).trans d9
            simp [execOp, go_sem, kc, t75, eTz]
            exact ⟨hC, Below.refl _ _, rfl⟩
          · intro v W ρ y hC kc kf ks ki ky ku kd
            have dg : v 8 = .bool false := by first | exact kd _ (Array.mem_of_getElem? (i := 0) rfl) rfl | exact kd _ (Array.mem_of_getElem? (i := 1) rfl) rfl | exact kd _ (Array.mem_of_getElem? (i := 2) rfl) rfl | exact kd _ (Array.mem_of_getElem? (i := 3) rfl) rfl | exact kd _ (Array.mem_of_getElem? (i := 4) rfl) rfl | exact kd _ (Array.mem_of_getElem? (i := 5) rfl) rfl
            have hy := ky 8 74 false (by decide) rfl dg
            rw [if_pos (by simp [Region.wanted, hy])]
            have d10 : v 10 = .string (T.extract 0 20) := by first | exact kd _ (Array.mem_of_getElem? (i := 0) rfl) rfl | exact kd _ (Array.mem_of_getElem? (i := 1) rfl) rfl | exact kd _ (Array.mem_of_getElem? (i := 2) rfl) rfl | exact kd _ (Array.mem_of_getElem? (i := 3) rfl) rfl | exact kd _ (Array.mem_of_getElem? (i := 4) rfl) rfl | exact kd _ (Array.mem_of_getElem? (i := 5) rfl) rfl
            have t76 : ρ (.tmp 76) = .string (T.extract 0 20) := (ks 10 76 (by decide) rfl).trans d10
            simp [execOp, go_sem, t76, kf]
            exact Calls.mono (HGo.out W) (fun e x h => ⟨_, h.1, hC.trans (h.2.mono hC.size), h.2, rfl⟩)
          · intro v W ρ y hC kc kf ks ki ky ku kd
            have dg : v 8 = .bool false := by first | exact kd _ (Array.mem_of_getElem? (i := 0) rfl) rfl | exact kd _ (Array.mem_of_getElem? (i := 1) rfl) rfl | exact kd _ (Array.mem_of_getElem? (i := 2) rfl) rfl | exact kd _ (Array.mem_of_getElem? (i := 3) rfl) rfl | exact kd _ (Array.mem_of_getElem? (i := 4) rfl) rfl | exact kd _ (Array.mem_of_getElem? (i := 5) rfl) rfl
            have hy := ky 8 74 false (by decide) rfl dg
            rw [if_pos (by simp [Region.wanted, hy])]
            have d11 : v 11 = .bool true := by first | exact kd _ (Array.mem_of_getElem? (i := 0) rfl) rfl | exact kd _ (Array.mem_of_getElem? (i := 1) rfl) rfl | exact kd _ (Array.mem_of_getElem? (i := 2) rfl) rfl | exact kd _ (Array.mem_of_getElem? (i := 3) rfl) rfl | exact kd _ (Array.mem_of_getElem? (i := 4) rfl) rfl | exact kd _ (Array.mem_of_getElem? (i := 5) rfl) rfl
            have t77 : ρ (.tmp 77) = .bool true := (ks 11 77 (by decide) rfl).trans d11
            simp [execOp, go_sem, kc, t77]
            exact ⟨hC, Below.refl _ _, rfl⟩
          · intro v W ρ y hC kc kf ks ki ky ku kd
            have dg : v 2 = .bool true := by first | exact kd _ (Array.mem_of_getElem? (i := 0) rfl) rfl | exact kd _ (Array.mem_of_getElem? (i := 1) rfl) rfl | exact kd _ (Array.mem_of_getElem? (i := 2) rfl) rfl | exact kd _ (Array.mem_of_getElem? (i := 3) rfl) rfl | exact kd _ (Array.mem_of_getElem? (i := 4) rfl) rfl | exact kd _ (Array.mem_of_getElem? (i := 5) rfl) rfl
            have hy := ky 2 68 true (by decide) rfl dg
            rw [if_pos (by simp [Region.wanted, hy])]
            have d8 : v 8 = .bool false := by first | exact kd _ (Array.mem_of_getElem? (i := 0) rfl) rfl | exact kd _ (Array.mem_of_getElem? (i := 1) rfl) rfl | exact kd _ (Array.mem_of_getElem? (i := 2) rfl) rfl | exact kd _ (Array.mem_of_getElem? (i := 3) rfl) rfl | exact kd _ (Array.mem_of_getElem? (i := 4) rfl) rfl | exact kd _ (Array.mem_of_getElem? (i := 5) rfl) rfl
            have t74 : ρ (.tmp 74) = .bool false := (ks 8 74 (by decide) rfl).trans d8
            have d12 : v 12 = .bool false := by first | exact kd _ (Array.mem_of_getElem? (i := 0) rfl) rfl | exact kd _ (Array.mem_of_getElem? (i := 1) rfl) rfl | exact kd _ (Array.mem_of_getElem? (i := 2) rfl) rfl | exact kd _ (Array.mem_of_getElem? (i := 3) rfl) rfl | exact kd _ (Array.mem_of_getElem? (i := 4) rfl) rfl | exact kd _ (Array.mem_of_getElem? (i := 5) rfl) rfl
            have t78 : ρ (.tmp 78) = .bool false := (ks 12 78 (by decide) rfl).trans d12
            simp [execOp, go_sem, kc, t74, t78]
            exact ⟨hC, Below.refl _ _, rfl⟩
          · refine stepW_of_u ⟨rfl, fun v W ρ hC kc kf ks ki kd => ?_⟩
            have d2 : v 2 = .bool true := by first | exact kd _ (Array.mem_of_getElem? (i := 0) rfl) rfl | exact kd _ (Array.mem_of_getElem? (i := 1) rfl) rfl | exact kd _ (Array.mem_of_getElem? (i := 2) rfl) rfl | exact kd _ (Array.mem_of_getElem? (i := 3) rfl) rfl | exact kd _ (Array.mem_of_getElem? (i := 4) rfl) rfl | exact kd _ (Array.mem_of_getElem? (i := 5) rfl) rfl
            have t68 : ρ (.tmp 68) = .bool true := (ks 2 68 (by decide) rfl).trans d2
            have d13 : v 13 = .bool false := by first | exact kd _ (Array.mem_of_getElem? (i := 0) rfl) rfl | exact kd _ (Array.mem_of_getElem? (i := 1) rfl) rfl | exact kd _ (Array.mem_of_getElem? (i := 2) rfl) rfl | exact kd _ (Array.mem_of_getElem? (i := 3) rfl) rfl | exact kd _ (Array.mem_of_getElem? (i := 4) rfl) rfl | exact kd _ (Array.mem_of_getElem? (i := 5) rfl) rfl
            have t79 : ρ (.tmp 79) = .bool false := (ks 13 79 (by decide) rfl).trans d13
            simp [execOp, go_sem, kc, t68, t79]
            exact ⟨hC, Below.refl _ _, rfl⟩
          · refine stepW_of_u ⟨rfl, fun v W ρ hC kc kf ks ki kd => ?_⟩
            have d14 : v 14 = .bool false := by first | exact kd _ (Array.mem_of_getElem? (i := 0) rfl) rfl | exact kd _ (Array.mem_of_getElem? (i := 1) rfl) rfl | exact kd _ (Array.mem_of_getElem? (i := 2) rfl) rfl | exact kd _ (Array.mem_of_getElem? (i := 3) rfl) rfl | exact kd _ (Array.mem_of_getElem? (i := 4) rfl) rfl | exact kd _ (Array.mem_of_getElem? (i := 5) rfl) rfl
            have t80 : ρ (.tmp 80) = .bool false := (ks 14 80 (by decide) rfl).trans d14
            simp [execOp, go_sem, kc, t80]
            exact ⟨hC, Below.refl _ _, rfl⟩
          · intro v W ρ y hC kc kf ks ki ky ku kd
            have dg : v 15 = .bool false := by first | exact kd _ (Array.mem_of_getElem? (i := 0) rfl) rfl | exact kd _ (Array.mem_of_getElem? (i := 1) rfl) rfl | exact kd _ (Array.mem_of_getElem? (i := 2) rfl) rfl | exact kd _ (Array.mem_of_getElem? (i := 3) rfl) rfl | exact kd _ (Array.mem_of_getElem? (i := 4) rfl) rfl | exact kd _ (Array.mem_of_getElem? (i := 5) rfl) rfl
            have hy := ky 15 81 false (by decide) rfl dg
            rw [if_pos (by simp [Region.wanted, hy])]
            have t8 : ρ (.tmp 8) = .pointer (some ⟨gx, 0, none⟩) := ki 8 (by decide)
            simp [execOp, go_sem, kc, t8]
            exact ⟨hC, Below.refl _ _, rfl⟩
          · intro v W ρ y hC kc kf ks ki ky ku kd
            have dg : v 15 = .bool false := by first | exact kd _ (Array.mem_of_getElem? (i := 0) rfl) rfl | exact kd _ (Array.mem_of_getElem? (i := 1) rfl) rfl | exact kd _ (Array.mem_of_getElem? (i := 2) rfl) rfl | exact kd _ (Array.mem_of_getElem? (i := 3) rfl) rfl | exact kd _ (Array.mem_of_getElem? (i := 4) rfl) rfl | exact kd _ (Array.mem_of_getElem? (i := 5) rfl) rfl
            have hy := ky 15 81 false (by decide) rfl dg
            rw [if_pos (by simp [Region.wanted, hy])]
            have d16 : v 16 = .pointer (some ⟨gx, 10, none⟩) := by first | exact kd _ (Array.mem_of_getElem? (i := 0) rfl) rfl | exact kd _ (Array.mem_of_getElem? (i := 1) rfl) rfl | exact kd _ (Array.mem_of_getElem? (i := 2) rfl) rfl | exact kd _ (Array.mem_of_getElem? (i := 3) rfl) rfl | exact kd _ (Array.mem_of_getElem? (i := 4) rfl) rfl | exact kd _ (Array.mem_of_getElem? (i := 5) rfl) rfl
            have t82 : ρ (.tmp 82) = .pointer (some ⟨gx, 10, none⟩) := (ks 16 82 (by decide) rfl).trans d16
            have hg := blk_later hX12.out hC
            have c10 := blk_cell hg 10
            simp at c10
            simp [execOp, go_sem, kc, t82, c10]
            exact ⟨hC, Below.refl _ _, rfl⟩
          · intro v W ρ y hC kc kf ks ki ky ku kd
            have dg : v 15 = .bool false := by first | exact kd _ (Array.mem_of_getElem? (i := 0) rfl) rfl | exact kd _ (Array.mem_of_getElem? (i := 1) rfl) rfl | exact kd _ (Array.mem_of_getElem? (i := 2) rfl) rfl | exact kd _ (Array.mem_of_getElem? (i := 3) rfl) rfl | exact kd _ (Array.mem_of_getElem? (i := 4) rfl) rfl | exact kd _ (Array.mem_of_getElem? (i := 5) rfl) rfl
            have hy := ky 15 81 false (by decide) rfl dg
            rw [if_pos (by simp [Region.wanted, hy])]
            have d17 : v 17 = .int .i64 C := by first | exact kd _ (Array.mem_of_getElem? (i := 0) rfl) rfl | exact kd _ (Array.mem_of_getElem? (i := 1) rfl) rfl | exact kd _ (Array.mem_of_getElem? (i := 2) rfl) rfl | exact kd _ (Array.mem_of_getElem? (i := 3) rfl) rfl | exact kd _ (Array.mem_of_getElem? (i := 4) rfl) rfl | exact kd _ (Array.mem_of_getElem? (i := 5) rfl) rfl
            have t83 : ρ (.tmp 83) = .int .i64 C := (ks 17 83 (by decide) rfl).trans d17
            simp [execOp, go_sem, kc, t83, eC]
            exact ⟨hC, Below.refl _ _, rfl⟩
          · intro v W ρ y hC kc kf ks ki ky ku kd
            have dg : v 15 = .bool false := by first | exact kd _ (Array.mem_of_getElem? (i := 0) rfl) rfl | exact kd _ (Array.mem_of_getElem? (i := 1) rfl) rfl | exact kd _ (Array.mem_of_getElem? (i := 2) rfl) rfl | exact kd _ (Array.mem_of_getElem? (i := 3) rfl) rfl | exact kd _ (Array.mem_of_getElem? (i := 4) rfl) rfl | exact kd _ (Array.mem_of_getElem? (i := 5) rfl) rfl
            have hy := ky 15 81 false (by decide) rfl dg
            rw [if_pos (by simp [Region.wanted, hy])]
            have d18 : v 18 = .bool false := by first | exact kd _ (Array.mem_of_getElem? (i := 0) rfl) rfl | exact kd _ (Array.mem_of_getElem? (i := 1) rfl) rfl | exact kd _ (Array.mem_of_getElem? (i := 2) rfl) rfl | exact kd _ (Array.mem_of_getElem? (i := 3) rfl) rfl | exact kd _ (Array.mem_of_getElem? (i := 4) rfl) rfl | exact kd _ (Array.mem_of_getElem? (i := 5) rfl) rfl
            have t84 : ρ (.tmp 84) = .bool false := (ks 18 84 (by decide) rfl).trans d18
            simp [execOp, go_sem, kc, t84]
            exact ⟨hC, Below.refl _ _, rfl⟩
          · intro v W ρ y hC kc kf ks ki ky ku kd
            have dg : v 19 = .bool false := by first | exact kd _ (Array.mem_of_getElem? (i := 0) rfl) rfl | exact kd _ (Array.mem_of_getElem? (i := 1) rfl) rfl | exact kd _ (Array.mem_of_getElem? (i := 2) rfl) rfl | exact kd _ (Array.mem_of_getElem? (i := 3) rfl) rfl | exact kd _ (Array.mem_of_getElem? (i := 4) rfl) rfl | exact kd _ (Array.mem_of_getElem? (i := 5) rfl) rfl
            have hy := ky 19 85 false (by decide) rfl dg
            rw [if_neg (by simp [Region.wanted, hy])]
            exact ⟨Below.refl _ _, rfl⟩
          · intro v W ρ y hC kc kf ks ki ky ku kd
            have dg : v 19 = .bool false := by first | exact kd _ (Array.mem_of_getElem? (i := 0) rfl) rfl | exact kd _ (Array.mem_of_getElem? (i := 1) rfl) rfl | exact kd _ (Array.mem_of_getElem? (i := 2) rfl) rfl | exact kd _ (Array.mem_of_getElem? (i := 3) rfl) rfl | exact kd _ (Array.mem_of_getElem? (i := 4) rfl) rfl | exact kd _ (Array.mem_of_getElem? (i := 5) rfl) rfl
            have hy := ky 19 85 false (by decide) rfl dg
            rw [if_neg (by simp [Region.wanted, hy])]
            exact ⟨Below.refl _ _, rfl⟩
          · intro v W ρ y hC kc kf ks ki ky ku kd
            have dg : v 19 = .bool false := by first | exact kd _ (Array.mem_of_getElem? (i := 0) rfl) rfl | exact kd _ (Array.mem_of_getElem? (i := 1) rfl) rfl | exact kd _ (Array.mem_of_getElem? (i := 2) rfl) rfl | exact kd _ (Array.mem_of_getElem? (i := 3) rfl) rfl | exact kd _ (Array.mem_of_getElem? (i := 4) rfl) rfl | exact kd _ (Array.mem_of_getElem? (i := 5) rfl) rfl
            have hy := ky 19 85 false (by decide) rfl dg
            rw [if_neg (by simp [Region.wanted, hy])]
            exact ⟨Below.refl _ _, rfl⟩
          · intro v W ρ y hC kc kf ks ki ky ku kd
            have dg : v 19 = .bool false := by first | exact kd _ (Array.mem_of_getElem? (i := 0) rfl) rfl | exact kd _ (Array.mem_of_getElem? (i := 1) rfl) rfl | exact kd _ (Array.mem_of_getElem? (i := 2) rfl) rfl | exact kd _ (Array.mem_of_getElem? (i := 3) rfl) rfl | exact kd _ (Array.mem_of_getElem? (i := 4) rfl) rfl | exact kd _ (Array.mem_of_getElem? (i := 5) rfl) rfl
            have hy := ky 19 85 false (by decide) rfl dg
            rw [if_neg (by simp [Region.wanted, hy])]
            exact ⟨Below.refl _ _, rfl⟩
          · intro v W ρ y hC kc kf ks ki ky ku kd
            have dg : v 19 = .bool false := by first | exact kd _ (Array.mem_of_getElem? (i := 0) rfl) rfl | exact kd _ (Array.mem_of_getElem? (i := 1) rfl) rfl | exact kd _ (Array.mem_of_getElem? (i := 2) rfl) rfl | exact kd _ (Array.mem_of_getElem? (i := 3) rfl) rfl | exact kd _ (Array.mem_of_getElem? (i := 4) rfl) rfl | exact kd _ (Array.mem_of_getElem? (i := 5) rfl) rfl
            have hy := ky 19 85 false (by decide) rfl dg
            rw [if_neg (by simp [Region.wanted, hy])]
            exact ⟨Below.refl _ _, rfl⟩
          · intro v W ρ y hC kc kf ks ki ky ku kd
            have dg : v 15 = .bool false := by first | exact kd _ (Array.mem_of_getElem? (i := 0) rfl) rfl | exact kd _ (Array.mem_of_getElem? (i := 1) rfl) rfl | exact kd _ (Array.mem_of_getElem? (i := 2) rfl) rfl | exact kd _ (Array.mem_of_getElem? (i := 3) rfl) rfl | exact kd _ (Array.mem_of_getElem? (i := 4) rfl) rfl | exact kd _ (Array.mem_of_getElem? (i := 5) rfl) rfl
            have hy := ky 15 81 false (by decide) rfl dg
            rw [if_pos (by simp [Region.wanted, hy])]
            have d19 : v 19 = .bool false := by first | exact kd _ (Array.mem_of_getElem? (i := 0) rfl) rfl | exact kd _ (Array.mem_of_getElem? (i := 1) rfl) rfl | exact kd _ (Array.mem_of_getElem? (i := 2) rfl) rfl | exact kd _ (Array.mem_of_getElem? (i := 3) rfl) rfl | exact kd _ (Array.mem_of_getElem? (i := 4) rfl) rfl | exact kd _ (Array.mem_of_getElem? (i := 5) rfl) rfl
            have t85 : ρ (.tmp 85) = .bool false := (ks 19 85 (by decide) rfl).trans d19
            simp [execOp, go_sem, kc, t85]
            exact ⟨hC, Below.refl _ _, rfl⟩
          · refine stepW_of_u ⟨rfl, fun v W ρ hC kc kf ks ki kd => ?_⟩
            have d15 : v 15 = .bool false := by first | exact kd _ (Array.mem_of_getElem? (i := 0) rfl) rfl | exact kd _ (Array.mem_of_getElem? (i := 1) rfl) rfl | exact kd _ (Array.mem_of_getElem? (i := 2) rfl) rfl | exact kd _ (Array.mem_of_getElem? (i := 3) rfl) rfl | exact kd _ (Array.mem_of_getElem? (i := 4) rfl) rfl | exact kd _ (Array.mem_of_getElem? (i := 5) rfl) rfl
            have t81 : ρ (.tmp 81) = .bool false := (ks 15 81 (by decide) rfl).trans d15
            have d25 : v 25 = .bool false := by first | exact kd _ (Array.mem_of_getElem? (i := 0) rfl) rfl | exact kd _ (Array.mem_of_getElem? (i := 1) rfl) rfl | exact kd _ (Array.mem_of_getElem? (i := 2) rfl) rfl | exact kd _ (Array.mem_of_getElem? (i := 3) rfl) rfl | exact kd _ (Array.mem_of_getElem? (i := 4) rfl) rfl | exact kd _ (Array.mem_of_getElem? (i := 5) rfl) rfl
            have t91 : ρ (.tmp 91) = .bool false := (ks 25 91 (by decide) rfl).trans d25
            simp [execOp, go_sem, kc, t81, t91]
            exact ⟨hC, Below.refl _ _, rfl⟩
    · have e := HTn.out (by simpa using hr)
      subst e
      clear HTy HTn hr HPs HTs
      by_cases hc : C = 0
      · have e := HXt.out hc
        rw [e] at HXb
        subst hc
        clear e HXt
        refine grow_guarded 27 [.is (.string ⟨#[]⟩), .is (.bool false), .is (.bool false), .is (undef), .is (undef), .is (undef), .is (undef), .is (undef), .is (undef), .is (undef), .is (undef), .is (undef), .is (undef), .is (undef), .is (.bool false), .is (.bool false), .is (.pointer (some ⟨gx, 10, none⟩)), .is (.int .i64 0), .is (.bool true), .is (.bool true), .is (.pointer (some ⟨gx, 0, none⟩)), .is (.agg #[.int .i64 X.src, .int .i64 X.dst, .int .i64 X.proto, .int .i64 X.a, .int .i64 X.b, .int .i64 X.kind, .int .i64 X.flags, .int .i64 X.seq, .int .i64 X.ack, .string X.body]), .is (.string u), .is (.string u), .is (.bool false), .is (.bool false), .is (.bool false)] rfl (by kernel_rfl) (by kernel_rfl) ?steps13ny (fun v w hb hall => FIN.out v w hb (hall 26 (by decide)))
        case steps13ny =>
          refine ⟨?_, ?_, ?_, ?_, ?_, ?_, ?_, ?_, ?_, ?_, ?_, ?_, ?_, ?_, ?_, ?_, ?_, ?_, ?_, ?_, ?_, ?_, ?_, ?_, ?_, ?_, ?_, trivial⟩
          · refine stepW_of_u ⟨rfl, fun v W ρ hC kc kf ks ki kd => ?_⟩
            have t6 : ρ (.tmp 6) = .string ⟨#[]⟩ := ki 6 (by decide)
            simp [execOp, go_sem, kc, t6]
            exact ⟨hC, Below.refl _ _, rfl⟩
          · refine stepW_of_u ⟨rfl, fun v W ρ hC kc kf ks ki kd => ?_⟩
            have d0 : v 0 = .string ⟨#[]⟩ := by first | exact kd _ (Array.mem_of_getElem? (i := 0) rfl) rfl | exact kd _ (Array.mem_of_getElem? (i := 1) rfl) rfl | exact kd _ (Array.mem_of_getElem? (i := 2) rfl) rfl | exact kd _ (Array.mem_of_getElem? (i := 3) rfl) rfl | exact kd _ (Array.mem_of_getElem? (i := 4) rfl) rfl | exact kd _ (Array.mem_of_getElem? (i := 5) rfl) rfl
            have t66 : ρ (.tmp 66) = .string ⟨#[]⟩ := (ks 0 66 (by decide) rfl).trans d0
            simp [execOp, go_sem, kc, t66]
            exact ⟨hC, Below.refl _ _, rfl⟩
          · refine stepW_of_u ⟨rfl, fun v W ρ hC kc kf ks ki kd => ?_⟩
            have d1 : v 1 = .bool false := by first | exact kd _ (Array.mem_of_getElem? (i := 0) rfl) rfl | exact kd _ (Array.mem_of_getElem? (i := 1) rfl) rfl | exact kd _ (Array.mem_of_getElem? (i := 2) rfl) rfl | exact kd _ (Array.mem_of_getElem? (i := 3) rfl) rfl | exact kd _ (Array.mem_of_getElem? (i := 4) rfl) rfl | exact kd _ (Array.mem_of_getElem? (i := 5) rfl) rfl
            have t67 : ρ (.tmp 67) = .bool false := (ks 1 67 (by decide) rfl).trans d1
            simp [execOp, go_sem, kc, t67]
            exact ⟨hC, Below.refl _ _, rfl⟩
          · intro v W ρ y hC kc kf ks ki ky ku kd
            have dg : v 2 = .bool false := by first | exact kd _ (Array.mem_of_getElem? (i := 0) rfl) rfl | exact kd _ (Array.mem_of_getElem? (i := 1) rfl) rfl | exact kd _ (Array.mem_of_getElem? (i := 2) rfl) rfl | exact kd _ (Array.mem_of_getElem? (i := 3) rfl) rfl | exact kd _ (Array.mem_of_getElem? (i := 4) rfl) rfl | exact kd _ (Array.mem_of_getElem? (i := 5) rfl) rfl
            have hy := ky 2 68 false (by decide) rfl dg
            rw [if_neg (by simp [Region.wanted, hy])]
            exact ⟨Below.refl _ _, rfl⟩
          · intro v W ρ y hC kc kf ks ki ky ku kd
            have dg : v 2 = .bool false := by first | exact kd _ (Array.mem_of_getElem? (i := 0) rfl) rfl | exact kd _ (Array.mem_of_getElem? (i := 1) rfl) rfl | exact kd _ (Array.mem_of_getElem? (i := 2) rfl) rfl | exact kd _ (Array.mem_of_getElem? (i := 3) rfl) rfl | exact kd _ (Array.mem_of_getElem? (i := 4) rfl) rfl | exact kd _ (Array.mem_of_getElem? (i := 5) rfl) rfl
            have hy := ky 2 68 false (by decide) rfl dg
            rw [if_neg (by simp [Region.wanted, hy])]
            exact ⟨Below.refl _ _, rfl⟩
          · intro v W ρ y hC kc kf ks ki ky ku kd
            have dg : v 2 = .bool false := by first | exact kd _ (Array.mem_of_getElem? (i := 0) rfl) rfl | exact kd _ (Array.mem_of_getElem? (i := 1) rfl) rfl | exact kd _ (Array.mem_of_getElem? (i := 2) rfl) rfl | exact kd _ (Array.mem_of_getElem? (i := 3) rfl) rfl | exact kd _ (Array.mem_of_getElem? (i := 4) rfl) rfl | exact kd _ (Array.mem_of_getElem? (i := 5) rfl) rfl
            have hy := ky 2 68 false (by decide) rfl dg
            rw [if_neg (by simp [Region.wanted, hy])]
            exact ⟨Below.refl _ _, rfl⟩
          · intro v W ρ y hC kc kf ks ki ky ku kd
            have dg : v 2 = .bool false := by first | exact kd _ (Array.mem_of_getElem? (i := 0) rfl) rfl | exact kd _ (Array.mem_of_getElem? (i := 1) rfl) rfl | exact kd _ (Array.mem_of_getElem? (i := 2) rfl) rfl | exact kd _ (Array.mem_of_getElem? (i := 3) rfl) rfl | exact kd _ (Array.mem_of_getElem? (i := 4) rfl) rfl | exact kd _ (Array.mem_of_getElem? (i := 5) rfl) rfl
            have hy := ky 2 68 false (by decide) rfl dg
            rw [if_neg (by simp [Region.wanted, hy])]
            exact ⟨Below.refl _ _, rfl⟩
          · intro v W ρ y hC kc kf ks ki ky ku kd
            have dg : v 2 = .bool false := by first | exact kd _ (Array.mem_of_getElem? (i := 0) rfl) rfl | exact kd _ (Array.mem_of_getElem? (i := 1) rfl) rfl | exact kd _ (Array.mem_of_getElem? (i := 2) rfl) rfl | exact kd _ (Array.mem_of_getElem? (i := 3) rfl) rfl | exact kd _ (Array.mem_of_getElem? (i := 4) rfl) rfl | exact kd _ (Array.mem_of_getElem? (i := 5) rfl) rfl
            have hy := ky 2 68 false (by decide) rfl dg
            rw [if_neg (by simp [Region.wanted, hy])]
            exact ⟨Below.refl _ _, rfl⟩
          · intro v W ρ y hC kc kf ks ki ky ku kd
            have dg : v 2 = .bool false := by first | exact kd _ (Array.mem_of_getElem? (i := 0) rfl) rfl | exact kd _ (Array.mem_of_getElem? (i := 1) rfl) rfl | exact kd _ (Array.mem_of_getElem? (i := 2) rfl) rfl | exact kd _ (Array.mem_of_getElem? (i := 3) rfl) rfl | exact kd _ (Array.mem_of_getElem? (i := 4) rfl) rfl | exact kd _ (Array.mem_of_getElem? (i := 5) rfl) rfl
            have hy := ky 2 68 false (by decide) rfl dg
            rw [if_neg (by simp [Region.wanted, hy])]
            exact ⟨Below.refl _ _, rfl⟩
          · intro v W ρ y hC kc kf ks ki ky ku kd
            have dg : v 8 = undef := by first | exact kd _ (Array.mem_of_getElem? (i := 0) rfl) rfl | exact kd _ (Array.mem_of_getElem? (i := 1) rfl) rfl | exact kd _ (Array.mem_of_getElem? (i := 2) rfl) rfl | exact kd _ (Array.mem_of_getElem? (i := 3) rfl) rfl | exact kd _ (Array.mem_of_getElem? (i := 4) rfl) rfl | exact kd _ (Array.mem_of_getElem? (i := 5) rfl) rfl
            have hy := ku 8 74 (by decide) rfl dg
            rw [if_neg (by simp [Region.wanted, hy])]
            exact ⟨Below.refl _ _, rfl⟩
          · intro v W ρ y hC kc kf ks ki ky ku kd
            have dg : v 8 = undef := by first | exact kd _ (Array.mem_of_getElem? (i := 0) rfl) rfl | exact kd _ (Array.mem_of_getElem? (i := 1) rfl) rfl | exact kd _ (Array.mem_of_getElem? (i := 2) rfl) rfl | exact kd _ (Array.mem_of_getElem? (i := 3) rfl) rfl | exact kd _ (Array.mem_of_getElem? (i := 4) rfl) rfl | exact kd _ (Array.mem_of_getElem? (i := 5) rfl) rfl
            have hy := ku 8 74 (by decide) rfl dg
            rw [if_neg (by simp [Region.wanted, hy])]
            exact ⟨Below.refl _ _, rfl⟩
          · intro v W ρ y hC kc kf ks ki ky ku kd
            have dg : v 8 = undef := by first | exact kd _ (Array.mem_of_getElem? (i := 0) rfl) rfl | exact kd _ (Array.mem_of_getElem? (i := 1) rfl) rfl | exact kd _ (Array.mem_of_getElem? (i := 2) rfl) rfl | exact kd _ (Array.mem_of_getElem? (i := 3) rfl) rfl | exact kd _ (Array.mem_of_getElem? (i := 4) rfl) rfl | exact kd _ (Array.mem_of_getElem? (i := 5) rfl) rfl
            have hy := ku 8 74 (by decide) rfl dg
            rw [if_neg (by simp [Region.wanted, hy])]
            exact ⟨Below.refl _ _, rfl⟩
          · intro v W ρ y hC kc kf ks ki ky ku kd
            have dg : v 8 = undef := by first | exact kd _ (Array.mem_of_getElem? (i := 0) rfl) rfl | exact kd _ (Array.mem_of_getElem? (i := 1) rfl) rfl | exact kd _ (Array.mem_of_getElem? (i := 2) rfl) rfl | exact kd _ (Array.mem_of_getElem? (i := 3) rfl) rfl | exact kd _ (Array.mem_of_getElem? (i := 4) rfl) rfl | exact kd _ (Array.mem_of_getElem? (i := 5) rfl) rfl
            have hy := ku 8 74 (by decide) rfl dg
            rw [if_neg (by simp [Region.wanted, hy])]
            exact ⟨Below.refl _ _, rfl⟩
          · intro v W ρ y hC kc kf ks ki ky ku kd
            have dg : v 2 = .bool false := by first | exact kd _ (Array.mem_of_getElem? (i := 0) rfl) rfl | exact kd _ (Array.mem_of_getElem? (i := 1) rfl) rfl | exact kd _ (Array.mem_of_getElem? (i := 2) rfl) rfl | exact kd _ (Array.mem_of_getElem? (i := 3) rfl) rfl | exact kd _ (Array.mem_of_getElem? (i := 4) rfl) rfl | exact kd _ (Array.mem_of_getElem? (i := 5) rfl) rfl
            have hy := ky 2 68 false (by decide) rfl dg
            rw [if_neg (by simp [Region.wanted, hy])]
            exact ⟨Below.refl _ _, rfl⟩
          · refine stepW_of_u ⟨rfl, fun v W ρ hC kc kf ks ki kd => ?_⟩
            have d2 : v 2 = .bool false := by first | exact kd _ (Array.mem_of_getElem? (i := 0) rfl) rfl | exact kd _ (Array.mem_of_getElem? (i := 1) rfl) rfl | exact kd _ (Array.mem_of_getElem? (i := 2) rfl) rfl | exact kd _ (Array.mem_of_getElem? (i := 3) rfl) rfl | exact kd _ (Array.mem_of_getElem? (i := 4) rfl) rfl | exact kd _ (Array.mem_of_getElem? (i := 5) rfl) rfl
            have t68 : ρ (.tmp 68) = .bool false := (ks 2 68 (by decide) rfl).trans d2
            simp [execOp, go_sem, kc, t68]
            exact ⟨hC, Below.refl _ _, rfl⟩
          · refine stepW_of_u ⟨rfl, fun v W ρ hC kc kf ks ki kd => ?_⟩
            have d14 : v 14 = .bool false := by first | exact kd _ (Array.mem_of_getElem? (i := 0) rfl) rfl | exact kd _ (Array.mem_of_getElem? (i := 1) rfl) rfl | exact kd _ (Array.mem_of_getElem? (i := 2) rfl) rfl | exact kd _ (Array.mem_of_getElem? (i := 3) rfl) rfl | exact kd _ (Array.mem_of_getElem? (i := 4) rfl) rfl | exact kd _ (Array.mem_of_getElem? (i := 5) rfl) rfl
            have t80 : ρ (.tmp 80) = .bool false := (ks 14 80 (by decide) rfl).trans d14
            simp [execOp, go_sem, kc, t80]
            exact ⟨hC, Below.refl _ _, rfl⟩
          · intro v W ρ y hC kc kf ks ki ky ku kd
            have dg : v 15 = .bool false := by first | exact kd _ (Array.mem_of_getElem? (i := 0) rfl) rfl | exact kd _ (Array.mem_of_getElem? (i := 1) rfl) rfl | exact kd _ (Array.mem_of_getElem? (i := 2) rfl) rfl | exact kd _ (Array.mem_of_getElem? (i := 3) rfl) rfl | exact kd _ (Array.mem_of_getElem? (i := 4) rfl) rfl | exact kd _ (Array.mem_of_getElem? (i := 5) rfl) rfl
            have hy := ky 15 81 false (by decide) rfl dg
            rw [if_pos (by simp [Region.wanted, hy])]
            have t8 : ρ (.tmp 8) = .pointer (some ⟨gx, 0, none⟩) := ki 8 (by decide)
            simp [execOp, go_sem, kc, t8]
            exact ⟨hC, Below.refl _ _, rfl⟩
          · intro v W ρ y hC kc kf ks ki ky ku kd
            have dg : v 15 = .bool false := by first | exact kd _ (Array.mem_of_getElem? (i := 0) rfl) rfl | exact kd _ (Array.mem_of_getElem? (i := 1) rfl) rfl | exact kd _ (Array.mem_of_getElem? (i := 2) rfl) rfl | exact kd _ (Array.mem_of_getElem? (i := 3) rfl) rfl | exact kd _ (Array.mem_of_getElem? (i := 4) rfl) rfl | exact kd _ (Array.mem_of_getElem? (i := 5) rfl) rfl
            have hy := ky 15 81 false (by decide) rfl dg
            rw [if_pos (by simp [Region.wanted, hy])]
            have d16 : v 16 = .pointer (some ⟨gx, 10, none⟩) := by first | exact kd _ (Array.mem_of_getElem? (i := 0) rfl) rfl | exact kd _ (Array.mem_of_getElem? (i := 1) rfl) rfl | exact kd _ (Array.mem_of_getElem? (i := 2) rfl) rfl | exact kd _ (Array.mem_of_getElem? (i := 3) rfl) rfl | exact kd _ (Array.mem_of_getElem? (i := 4) rfl) rfl | exact kd _ (Array.mem_of_getElem? (i := 5) rfl) rfl
            have t82 : ρ (.tmp 82) = .pointer (some ⟨gx, 10, none⟩) := (ks 16 82 (by decide) rfl).trans d16
            have hg := blk_later hX12.out hC
            have c10 := blk_cell hg 10
            simp at c10
            simp [execOp, go_sem, kc, t82, c10]
            exact ⟨hC, Below.refl _ _, rfl⟩
          · intro v W ρ y hC kc kf ks ki ky ku kd
            have dg : v 15 = .bool false := by first | exact kd _ (Array.mem_of_getElem? (i := 0) rfl) rfl | exact kd _ (Array.mem_of_getElem? (i := 1) rfl) rfl | exact kd _ (Array.mem_of_getElem? (i := 2) rfl) rfl | exact kd _ (Array.mem_of_getElem? (i := 3) rfl) rfl | exact kd _ (Array.mem_of_getElem? (i := 4) rfl) rfl | exact kd _ (Array.mem_of_getElem? (i := 5) rfl) rfl
            have hy := ky 15 81 false (by decide) rfl dg
            rw [if_pos (by simp [Region.wanted, hy])]
            have d17 : v 17 = .int .i64 0 := by first | exact kd _ (Array.mem_of_getElem? (i := 0) rfl) rfl | exact kd _ (Array.mem_of_getElem? (i := 1) rfl) rfl | exact kd _ (Array.mem_of_getElem? (i := 2) rfl) rfl | exact kd _ (Array.mem_of_getElem? (i := 3) rfl) rfl | exact kd _ (Array.mem_of_getElem? (i := 4) rfl) rfl | exact kd _ (Array.mem_of_getElem? (i := 5) rfl) rfl
            have t83 : ρ (.tmp 83) = .int .i64 0 := (ks 17 83 (by decide) rfl).trans d17
            simp [execOp, go_sem, kc, t83]
            exact ⟨hC, Below.refl _ _, rfl⟩
          · intro v W ρ y hC kc kf ks ki ky ku kd
            have dg : v 15 = .bool false := by first | exact kd _ (Array.mem_of_getElem? (i := 0) rfl) rfl | exact kd _ (Array.mem_of_getElem? (i := 1) rfl) rfl | exact kd _ (Array.mem_of_getElem? (i := 2) rfl) rfl | exact kd _ (Array.mem_of_getElem? (i := 3) rfl) rfl | exact kd _ (Array.mem_of_getElem? (i := 4) rfl) rfl | exact kd _ (Array.mem_of_getElem? (i := 5) rfl) rfl
            have hy := ky 15 81 false (by decide) rfl dg
            rw [if_pos (by simp [Region.wanted, hy])]
            have d18 : v 18 = .bool true := by first | exact kd _ (Array.mem_of_getElem? (i := 0) rfl) rfl | exact kd _ (Array.mem_of_getElem? (i := 1) rfl) rfl | exact kd _ (Array.mem_of_getElem? (i := 2) rfl) rfl | exact kd _ (Array.mem_of_getElem? (i := 3) rfl) rfl | exact kd _ (Array.mem_of_getElem? (i := 4) rfl) rfl | exact kd _ (Array.mem_of_getElem? (i := 5) rfl) rfl
            have t84 : ρ (.tmp 84) = .bool true := (ks 18 84 (by decide) rfl).trans d18
            simp [execOp, go_sem, kc, t84]
            exact ⟨hC, Below.refl _ _, rfl⟩
          · intro v W ρ y hC kc kf ks ki ky ku kd
            have dg : v 19 = .bool true := by first | exact kd _ (Array.mem_of_getElem? (i := 0) rfl) rfl | exact kd _ (Array.mem_of_getElem? (i := 1) rfl) rfl | exact kd _ (Array.mem_of_getElem? (i := 2) rfl) rfl | exact kd _ (Array.mem_of_getElem? (i := 3) rfl) rfl | exact kd _ (Array.mem_of_getElem? (i := 4) rfl) rfl | exact kd _ (Array.mem_of_getElem? (i := 5) rfl) rfl
            have hy := ky 19 85 true (by decide) rfl dg
            rw [if_pos (by simp [Region.wanted, hy])]
            have t8 : ρ (.tmp 8) = .pointer (some ⟨gx, 0, none⟩) := ki 8 (by decide)
            simp [execOp, go_sem, kc, t8]
            exact ⟨hC, Below.refl _ _, rfl⟩
          · intro v W ρ y hC kc kf ks ki ky ku kd
            have dg : v 19 = .bool true := by first | exact kd _ (Array.mem_of_getElem? (i := 0) rfl) rfl | exact kd _ (Array.mem_of_getElem? (i := 1) rfl) rfl | exact kd _ (Array.mem_of_getElem? (i := 2) rfl) rfl | exact kd _ (Array.mem_of_getElem? (i := 3) rfl) rfl | exact kd _ (Array.mem_of_getElem? (i := 4) rfl) rfl | exact kd _ (Array.mem_of_getElem? (i := 5) rfl) rfl
            have hy := ky 19 85 true (by decide) rfl dg
            rw [if_pos (by simp [Region.wanted, hy])]
            have d20 : v 20 = .pointer (some ⟨gx, 0, none⟩) := by first | exact kd _ (Array.mem_of_getElem? (i := 0) rfl) rfl | exact kd _ (Array.mem_of_getElem? (i := 1) rfl) rfl | exact kd _ (Array.mem_of_getElem? (i := 2) rfl) rfl | exact kd _ (Array.mem_of_getElem? (i := 3) rfl) rfl | exact kd _ (Array.mem_of_getElem? (i := 4) rfl) rfl | exact kd _ (Array.mem_of_getElem? (i := 5) rfl) rfl
            have t86 : ρ (.tmp 86) = .pointer (some ⟨gx, 0, none⟩) := (ks 20 86 (by decide) rfl).trans d20
            have hg := blk_later hX12.out hC
            have c0 := blk_cell hg 0
            have c1 := blk_cell hg 1
            have c2 := blk_cell hg 2
            have c3 := blk_cell hg 3
            have c4 := blk_cell hg 4
            have c5 := blk_cell hg 5
            have c6 := blk_cell hg 6
            have c7 := blk_cell hg 7
            have c8 := blk_cell hg 8
            have c9 := blk_cell hg 9
            simp at c0 c1 c2 c3 c4 c5 c6 c7 c8 c9
            simp [execOp, go_sem, kc, t86, c0, c1, c2, c3, c4, c5, c6, c7, c8, c9]
            exact ⟨hC, Below.refl _ _, rfl⟩
          · intro v W ρ y hC kc kf ks ki ky ku kd
            have dg : v 19 = .bool true := by first | exact kd _ (Array.mem_of_getElem? (i := 0) rfl) rfl | exact kd _ (Array.mem_of_getElem? (i := 1) rfl) rfl | exact kd _ (Array.mem_of_getElem? (i := 2) rfl) rfl | exact kd _ (Array.mem_of_getElem? (i := 3) rfl) rfl | exact kd _ (Array.mem_of_getElem? (i := 4) rfl) rfl | exact kd _ (Array.mem_of_getElem? (i := 5) rfl) rfl
            have hy := ky 19 85 true (by decide) rfl dg
            rw [if_pos (by simp [Region.wanted, hy])]
            have d21 : v 21 = .agg #[.int .i64 X.src, .int .i64 X.dst, .int .i64 X.proto, .int .i64 X.a, .int .i64 X.b, .int .i64 X.kind, .int .i64 X.flags, .int .i64 X.seq, .int .i64 X.ack, .string X.body] := by first | exact kd _ (Array.mem_of_getElem? (i := 0) rfl) rfl | exact kd _ (Array.mem_of_getElem? (i := 1) rfl) rfl | exact kd _ (Array.mem_of_getElem? (i := 2) rfl) rfl | exact kd _ (Array.mem_of_getElem? (i := 3) rfl) rfl | exact kd _ (Array.mem_of_getElem? (i := 4) rfl) rfl | exact kd _ (Array.mem_of_getElem? (i := 5) rfl) rfl
            have t87 : ρ (.tmp 87) = .agg #[.int .i64 X.src, .int .i64 X.dst, .int .i64 X.proto, .int .i64 X.a, .int .i64 X.b, .int .i64 X.kind, .int .i64 X.flags, .int .i64 X.seq, .int .i64 X.ack, .string X.body] := (ks 21 87 (by decide) rfl).trans d21
            simp [execOp, go_sem, t87, kf]
            exact Calls.mono (HXb.out W) (fun e x h => ⟨_, h.1, hC.trans (h.2.mono hC.size), h.2, rfl⟩)
          · intro v W ρ y hC kc kf ks ki ky ku kd
            have dg : v 19 = .bool true := by first | exact kd _ (Array.mem_of_getElem? (i := 0) rfl) rfl | exact kd _ (Array.mem_of_getElem? (i := 1) rfl) rfl | exact kd _ (Array.mem_of_getElem? (i := 2) rfl) rfl | exact kd _ (Array.mem_of_getElem? (i := 3) rfl) rfl | exact kd _ (Array.mem_of_getElem? (i := 4) rfl) rfl | exact kd _ (Array.mem_of_getElem? (i := 5) rfl) rfl
            have hy := ky 19 85 true (by decide) rfl dg
            rw [if_pos (by simp [Region.wanted, hy])]
            have t7 : ρ (.tmp 7) = .string u := ki 7 (by decide)
            simp [execOp, go_sem, kc, t7]
            exact ⟨hC, Below.refl _ _, rfl⟩
          · intro v W ρ y hC kc kf ks ki ky ku kd
            have dg : v 19 = .bool true := by first | exact kd _ (Array.mem_of_getElem? (i := 0) rfl) rfl | exact kd _ (Array.mem_of_getElem? (i := 1) rfl) rfl | exact kd _ (Array.mem_of_getElem? (i := 2) rfl) rfl | exact kd _ (Array.mem_of_getElem? (i := 3) rfl) rfl | exact kd _ (Array.mem_of_getElem? (i := 4) rfl) rfl | exact kd _ (Array.mem_of_getElem? (i := 5) rfl) rfl
            have hy := ky 19 85 true (by decide) rfl dg
            rw [if_pos (by simp [Region.wanted, hy])]
            have d22 : v 22 = .string u := by first | exact kd _ (Array.mem_of_getElem? (i := 0) rfl) rfl | exact kd _ (Array.mem_of_getElem? (i := 1) rfl) rfl | exact kd _ (Array.mem_of_getElem? (i := 2) rfl) rfl | exact kd _ (Array.mem_of_getElem? (i := 3) rfl) rfl | exact kd _ (Array.mem_of_getElem? (i := 4) rfl) rfl | exact kd _ (Array.mem_of_getElem? (i := 5) rfl) rfl
            have t88 : ρ (.tmp 88) = .string u := (ks 22 88 (by decide) rfl).trans d22
            have d23 : v 23 = .string u := by first | exact kd _ (Array.mem_of_getElem? (i := 0) rfl) rfl | exact kd _ (Array.mem_of_getElem? (i := 1) rfl) rfl | exact kd _ (Array.mem_of_getElem? (i := 2) rfl) rfl | exact kd _ (Array.mem_of_getElem? (i := 3) rfl) rfl | exact kd _ (Array.mem_of_getElem? (i := 4) rfl) rfl | exact kd _ (Array.mem_of_getElem? (i := 5) rfl) rfl
            have t89 : ρ (.tmp 89) = .string u := (ks 23 89 (by decide) rfl).trans d23
            simp [execOp, go_sem, kc, t88, t89]
            exact ⟨hC, Below.refl _ _, rfl⟩
          · intro v W ρ y hC kc kf ks ki ky ku kd
            have dg : v 15 = .bool false := by first | exact kd _ (Array.mem_of_getElem? (i := 0) rfl) rfl | exact kd _ (Array.mem_of_getElem? (i := 1) rfl) rfl | exact kd _ (Array.mem_of_getElem? (i := 2) rfl) rfl | exact kd _ (Array.mem_of_getElem? (i := 3) rfl) rfl | exact kd _ (Array.mem_of_getElem? (i := 4) rfl) rfl | exact kd _ (Array.mem_of_getElem? (i := 5) rfl) rfl
            have hy := ky 15 81 false (by decide) rfl dg
            rw [if_pos (by simp [Region.wanted, hy])]
            have d19 : v 19 = .bool true := by first | exact kd _ (Array.mem_of_getElem? (i := 0) rfl) rfl | exact kd _ (Array.mem_of_getElem? (i := 1) rfl) rfl | exact kd _ (Array.mem_of_getElem? (i := 2) rfl) rfl | exact kd _ (Array.mem_of_getElem? (i := 3) rfl) rfl | exact kd _ (Array.mem_of_getElem? (i := 4) rfl) rfl | exact kd _ (Array.mem_of_getElem? (i := 5) rfl) rfl
            have t85 : ρ (.tmp 85) = .bool true := (ks 19 85 (by decide) rfl).trans d19
            have d24 : v 24 = .bool false := by first | exact kd _ (Array.mem_of_getElem? (i := 0) rfl) rfl | exact kd _ (Array.mem_of_getElem? (i := 1) rfl) rfl | exact kd _ (Array.mem_of_getElem? (i := 2) rfl) rfl | exact kd _ (Array.mem_of_getElem? (i := 3) rfl) rfl | exact kd _ (Array.mem_of_getElem? (i := 4) rfl) rfl | exact kd _ (Array.mem_of_getElem? (i := 5) rfl) rfl
            have t90 : ρ (.tmp 90) = .bool false := (ks 24 90 (by decide) rfl).trans d24
            simp [execOp, go_sem, kc, t85, t90]
            exact ⟨hC, Below.refl _ _, rfl⟩
          · refine stepW_of_u ⟨rfl, fun v W ρ hC kc kf ks ki kd => ?_⟩
            have d15 : v 15 = .bool false := by first | exact kd _ (Array.mem_of_getElem? (i := 0) rfl) rfl | exact kd _ (Array.mem_of_getElem? (i := 1) rfl) rfl | exact kd _ (Array.mem_of_getElem? (i := 2) rfl) rfl | exact kd _ (Array.mem_of_getElem? (i := 3) rfl) rfl | exact kd _ (Array.mem_of_getElem? (i := 4) rfl) rfl | exact kd _ (Array.mem_of_getElem? (i := 5) rfl) rfl
            have t81 : ρ (.tmp 81) = .bool false := (ks 15 81 (by decide) rfl).trans d15
            have d25 : v 25 = .bool false := by first | exact kd _ (Array.mem_of_getElem? (i := 0) rfl) rfl | exact kd _ (Array.mem_of_getElem? (i := 1) rfl) rfl | exact kd _ (Array.mem_of_getElem? (i := 2) rfl) rfl | exact kd _ (Array.mem_of_getElem? (i := 3) rfl) rfl | exact kd _ (Array.mem_of_getElem? (i := 4) rfl) rfl | exact kd _ (Array.mem_of_getElem? (i := 5) rfl) rfl
            have t91 : ρ (.tmp 91) = .bool false := (ks 25 91 (by decide) rfl).trans d25
            simp [execOp, go_sem, kc, t81, t91]
            exact ⟨hC, Below.refl _ _, rfl⟩
      · have eC : (C == 0) = false := beq_eq_false_iff_ne.2 hc
        clear hc HXt HXb
        refine grow_guarded 27 [.is (.string ⟨#[]⟩), .is (.bool false), .is (.bool false), .is (undef), .is (undef), .is (undef), .is (undef), .is (undef), .is (undef), .is (undef), .is (undef), .is (undef), .is (undef), .is (undef), .is (.bool false), .is (.bool false), .is (.pointer (some ⟨gx, 10, none⟩)), .is (.int .i64 C), .is (.bool false), .is (.bool false), .is (undef), .is (undef), .is (undef), .is (undef), .is (undef), .is (.bool false), .is (.bool false)] rfl (by kernel_rfl) (by kernel_rfl) ?steps13nn (fun v w hb hall => FIN.out v w hb (hall 26 (by decide)))
        case steps13nn =>
          refine ⟨?_, ?_, ?_, ?_, ?_, ?_, ?_, ?_, ?_, ?_, ?_, ?_, ?_, ?_, ?_, ?_, ?_, ?_, ?_, ?_, ?_, ?_, ?_, ?_, ?_, ?_, ?_, trivial⟩
          · refine stepW_of_u ⟨rfl, fun v W ρ hC kc kf ks ki kd => ?_⟩
            have t6 : ρ (.tmp 6) = .string ⟨#[]⟩ := ki 6 (by decide)
            simp [execOp, go_sem, kc, t6]
            exact ⟨hC, Below.refl _ _, rfl⟩
          · refine stepW_of_u ⟨rfl, fun v W ρ hC kc kf ks ki kd => ?_⟩
            have d0 : v 0 = .string ⟨#[]⟩ := by first | exact kd _ (Array.mem_of_getElem? (i := 0) rfl) rfl | exact kd _ (Array.mem_of_getElem? (i := 1) rfl) rfl | exact kd _ (Array.mem_of_getElem? (i := 2) rfl) rfl | exact kd _ (Array.mem_of_getElem? (i := 3) rfl) rfl | exact kd _ (Array.mem_of_getElem? (i := 4) rfl) rfl | exact kd _ (Array.mem_of_getElem? (i := 5) rfl) rfl
            have t66 : ρ (.tmp 66) = .string ⟨#[]⟩ := (ks 0 66 (by decide) rfl).trans d0
            simp [execOp, go_sem, kc, t66]
            exact ⟨hC, Below.refl _ _, rfl⟩
          · refine stepW_of_u ⟨rfl, fun v W ρ hC kc kf ks ki kd => ?_⟩
            have d1 : v 1 = .bool false := by first | exact kd _ (Array.mem_of_getElem? (i := 0) rfl) rfl | exact kd _ (Array.mem_of_getElem? (i := 1) rfl) rfl | exact kd _ (Array.mem_of_getElem? (i := 2) rfl) rfl | exact kd _ (Array.mem_of_getElem? (i := 3) rfl) rfl | exact kd _ (Array.mem_of_getElem? (i := 4) rfl) rfl | exact kd _ (Array.mem_of_getElem? (i := 5) rfl) rfl
            have t67 : ρ (.tmp 67) = .bool false := (ks 1 67 (by decide) rfl).trans d1
            simp [execOp, go_sem, kc, t67]
            exact ⟨hC, Below.refl _ _, rfl⟩
          · intro v W ρ y hC kc kf ks ki ky ku kd
            have dg : v 2 = .bool false := by first | exact kd _ (Array.mem_of_getElem? (i := 0) rfl) rfl | exact kd _ (Array.mem_of_getElem? (i := 1) rfl) rfl | exact kd _ (Array.mem_of_getElem? (i := 2) rfl) rfl | exact kd _ (Array.mem_of_getElem? (i := 3) rfl) rfl | exact kd _ (Array.mem_of_getElem? (i := 4) rfl) rfl | exact kd _ (Array.mem_of_getElem? (i := 5) rfl) rfl
            have hy := ky 2 68 false (by decide) rfl dg
            rw [if_neg (by simp [Region.wanted, hy])]
            exact ⟨Below.refl _ _, rfl⟩
          · intro v W ρ y hC kc kf ks ki ky ku kd
            have dg : v 2 = .bool false := by first | exact kd _ (Array.mem_of_getElem? (i := 0) rfl) rfl | exact kd _ (Array.mem_of_getElem? (i := 1) rfl) rfl | exact kd _ (Array.mem_of_getElem? (i := 2) rfl) rfl | exact kd _ (Array.mem_of_getElem? (i := 3) rfl) rfl | exact kd _ (Array.mem_of_getElem? (i := 4) rfl) rfl | exact kd _ (Array.mem_of_getElem? (i := 5) rfl) rfl
            have hy := ky 2 68 false (by decide) rfl dg
            rw [if_neg (by simp [Region.wanted, hy])]
            exact ⟨Below.refl _ _, rfl⟩
          · intro v W ρ y hC kc kf ks ki ky ku kd
            have dg : v 2 = .bool false := by first | exact kd _ (Array.mem_of_getElem? (i := 0) rfl) rfl | exact kd _ (Array.mem_of_getElem? (i := 1) rfl) rfl | exact kd _ (Array.mem_of_getElem? (i := 2) rfl) rfl | exact kd _ (Array.mem_of_getElem? (i := 3) rfl) rfl | exact kd _ (Array.mem_of_getElem? (i := 4) rfl) rfl | exact kd _ (Array.mem_of_getElem? (i := 5) rfl) rfl
            have hy := ky 2 68 false (by decide) rfl dg
            rw [if_neg (by simp [Region.wanted, hy])]
            exact ⟨Below.refl _ _, rfl⟩
          · intro v W ρ y hC kc kf ks ki ky ku kd
            have dg : v 2 = .bool false := by first | exact kd _ (Array.mem_of_getElem? (i := 0) rfl) rfl | exact kd _ (Array.mem_of_getElem? (i := 1) rfl) rfl | exact kd _ (Array.mem_of_getElem? (i := 2) rfl) rfl | exact kd _ (Array.mem_of_getElem? (i := 3) rfl) rfl | exact kd _ (Array.mem_of_getElem? (i := 4) rfl) rfl | exact kd _ (Array.mem_of_getElem? (i := 5) rfl) rfl
            have hy := ky 2 68 false (by decide) rfl dg
            rw [if_neg (by simp [Region.wanted, hy])]
            exact ⟨Below.refl _ _, rfl⟩
          · intro v W ρ y hC kc kf ks ki ky ku kd
            have dg : v 2 = .bool false := by first | exact kd _ (Array.mem_of_getElem? (i := 0) rfl) rfl | exact kd _ (Array.mem_of_getElem? (i := 1) rfl) rfl | exact kd _ (Array.mem_of_getElem? (i := 2) rfl) rfl | exact kd _ (Array.mem_of_getElem? (i := 3) rfl) rfl | exact kd _ (Array.mem_of_getElem? (i := 4) rfl) rfl | exact kd _ (Array.mem_of_getElem? (i := 5) rfl) rfl
            have hy := ky 2 68 false (by decide) rfl dg
            rw [if_neg (by simp [Region.wanted, hy])]
            exact ⟨Below.refl _ _, rfl⟩
          · intro v W ρ y hC kc kf ks ki ky ku kd
            have dg : v 2 = .bool false := by first | exact kd _ (Array.mem_of_getElem? (i := 0) rfl) rfl | exact kd _ (Array.mem_of_getElem? (i := 1) rfl) rfl | exact kd _ (Array.mem_of_getElem? (i := 2) rfl) rfl | exact kd _ (Array.mem_of_getElem? (i := 3) rfl) rfl | exact kd _ (Array.mem_of_getElem? (i := 4) rfl) rfl | exact kd _ (Array.mem_of_getElem? (i := 5) rfl) rfl
            have hy := ky 2 68 false (by decide) rfl dg
            rw [if_neg (by simp [Region.wanted, hy])]
            exact ⟨Below.refl _ _, rfl⟩
          · intro v W ρ y hC kc kf ks ki ky ku kd
            have dg : v 8 = undef := by first | exact kd _ (Array.mem_of_getElem? (i := 0) rfl) rfl | exact kd _ (Array.mem_of_getElem? (i := 1) rfl) rfl | exact kd _ (Array.mem_of_getElem? (i := 2) rfl) rfl | exact kd _ (Array.mem_of_getElem? (i := 3) rfl) rfl | exact kd _ (Array.mem_of_getElem? (i := 4) rfl) rfl | exact kd _ (Array.mem_of_getElem? (i := 5) rfl) rfl
            have hy := ku 8 74 (by decide) rfl dg
            rw [if_neg (by simp [Region.wanted, hy])]
            exact ⟨Below.refl _ _, rfl⟩
          · intro v W ρ y hC kc kf ks ki ky ku kd
            have dg : v 8 = undef := by first | exact kd _ (Array.mem_of_getElem? (i := 0) rfl) rfl | exact kd _ (Array.mem_of_getElem? (i := 1) rfl) rfl | exact kd _ (Array.mem_of_getElem? (i := 2) rfl) rfl | exact kd _ (Array.mem_of_getElem? (i := 3) rfl) rfl | exact kd _ (Array.mem_of_getElem? (i := 4) rfl) rfl | exact kd _ (Array.mem_of_getElem? (i := 5) rfl) rfl
            have hy := ku 8 74 (by decide) rfl dg
            rw [if_neg (by simp [Region.wanted, hy])]
            exact ⟨Below.refl _ _, rfl⟩
          · intro v W ρ y hC kc kf ks ki ky ku kd
            have dg : v 8 = undef := by first | exact kd _ (Array.mem_of_getElem? (i := 0) rfl) rfl | exact kd _ (Array.mem_of_getElem? (i := 1) rfl) rfl | exact kd _ (Array.mem_of_getElem? (i := 2) rfl) rfl | exact kd _ (Array.mem_of_getElem? (i := 3) rfl) rfl | exact kd _ (Array.mem_of_getElem? (i := 4) rfl) rfl | exact kd _ (Array.mem_of_getElem? (i := 5) rfl) rfl
            have hy := ku 8 74 (by decide) rfl dg
            rw [if_neg (by simp [Region.wanted, hy])]
            exact ⟨Below.refl _ _, rfl⟩
          · intro v W ρ y hC kc kf ks ki ky ku kd
            have dg : v 8 = undef := by first | exact kd _ (Array.mem_of_getElem? (i := 0) rfl) rfl | exact kd _ (Array.mem_of_getElem? (i := 1) rfl) rfl | exact kd _ (Array.mem_of_getElem? (i := 2) rfl) rfl | exact kd _ (Array.mem_of_getElem? (i := 3) rfl) rfl | exact kd _ (Array.mem_of_getElem? (i := 4) rfl) rfl | exact kd _ (Array.mem_of_getElem? (i := 5) rfl) rfl
            have hy := ku 8 74 (by decide) rfl dg
            rw [if_neg (by simp [Region.wanted, hy])]
            exact ⟨Below.refl _ _, rfl⟩
          · intro v W ρ y hC kc kf ks ki ky ku kd
            have dg : v 2 = .bool false := by first | exact kd _ (Array.mem_of_getElem? (i := 0) rfl) rfl | exact kd _ (Array.mem_of_getElem? (i := 1) rfl) rfl | exact kd _ (Array.mem_of_getElem? (i := 2) rfl) rfl | exact kd _ (Array.mem_of_getElem? (i := 3) rfl) rfl | exact kd _ (Array.mem_of_getElem? (i := 4) rfl) rfl | exact kd _ (Array.mem_of_getElem? (i := 5) rfl) rfl
            have hy := ky 2 68 false (by decide) rfl dg
            rw [if_neg (by simp [Region.wanted, hy])]
            exact ⟨Below.refl _ _, rfl⟩
          · refine stepW_of_u ⟨rfl, fun v W ρ hC kc kf ks ki kd => ?_⟩
            have d2 : v 2 = .bool false := by first | exact kd _ (Array.mem_of_getElem? (i := 0) rfl) rfl | exact kd _ (Array.mem_of_getElem? (i := 1) rfl) rfl | exact kd _ (Array.mem_of_getElem? (i := 2) rfl) rfl | exact kd _ (Array.mem_of_getElem? (i := 3) rfl) rfl | exact kd _ (Array.mem_of_getElem? (i := 4) rfl) rfl | exact kd _ (Array.mem_of_getElem? (i := 5) rfl) rfl
            have t68 : ρ (.tmp 68) = .bool false := (ks 2 68 (by decide) rfl).trans d2
            simp [execOp, go_sem, kc, t68]
            exact ⟨hC, Below.refl _ _, rfl⟩
          · refine stepW_of_u ⟨rfl, fun v W ρ hC kc kf ks ki kd => ?_⟩
            have d14 : v 14 = .bool false := by first | exact kd _ (Array.mem_of_getElem? (i := 0) rfl) rfl | exact kd _ (Array.mem_of_getElem? (i := 1) rfl) rfl | exact kd _ (Array.mem_of_getElem? (i := 2) rfl) rfl | exact kd _ (Array.mem_of_getElem? (i := 3) rfl) rfl | exact kd _ (Array.mem_of_getElem? (i := 4) rfl) rfl | exact kd _ (Array.mem_of_getElem? (i := 5) rfl) rfl
            have t80 : ρ (.tmp 80) = .bool false := (ks 14 80 (by decide) rfl).trans d14
            simp [execOp, go_sem, kc, t80]
            exact ⟨hC, Below.refl _ _, rfl⟩
          · intro v W ρ y hC kc kf ks ki ky ku kd
            have dg : v 15 = .bool false := by first | exact kd _ (Array.mem_of_getElem? (i := 0) rfl) rfl | exact kd _ (Array.mem_of_getElem? (i := 1) rfl) rfl | exact kd _ (Array.mem_of_getElem? (i := 2) rfl) rfl | exact kd _ (Array.mem_of_getElem? (i := 3) rfl) rfl | exact kd _ (Array.mem_of_getElem? (i := 4) rfl) rfl | exact kd _ (Array.mem_of_getElem? (i := 5) rfl) rfl
            have hy := ky 15 81 false (by decide) rfl dg
            rw [if_pos (by simp [Region.wanted, hy])]
            have t8 : ρ (.tmp 8) = .pointer (some ⟨gx, 0, none⟩) := ki 8 (by decide)
            simp [execOp, go_sem, kc, t8]
            exact ⟨hC, Below.refl _ _, rfl⟩
          · intro v W ρ y hC kc kf ks ki ky ku kd
            have dg : v 15 = .bool false := by first | exact kd _ (Array.mem_of_getElem? (i := 0) rfl) rfl | exact kd _ (Array.mem_of_getElem? (i := 1) rfl) rfl | exact kd _ (Array.mem_of_getElem? (i := 2) rfl) rfl | exact kd _ (Array.mem_of_getElem? (i := 3) rfl) rfl | exact kd _ (Array.mem_of_getElem? (i := 4) rfl) rfl | exact kd _ (Array.mem_of_getElem? (i := 5) rfl) rfl
            have hy := ky 15 81 false (by decide) rfl dg
            rw [if_pos (by simp [Region.wanted, hy])]
            have d16 : v 16 = .pointer (some ⟨gx, 10, none⟩) := by first | exact kd _ (Array.mem_of_getElem? (i := 0) rfl) rfl | exact kd _ (Array.mem_of_getElem? (i := 1) rfl) rfl | exact kd _ (Array.mem_of_getElem? (i := 2) rfl) rfl | exact kd _ (Array.mem_of_getElem? (i := 3) rfl) rfl | exact kd _ (Array.mem_of_getElem? (i := 4) rfl) rfl | exact kd _ (Array.mem_of_getElem? (i := 5) rfl) rfl
            have t82 : ρ (.tmp 82) = .pointer (some ⟨gx, 10, none⟩) := (ks 16 82 (by decide) rfl).trans d16
            have hg := blk_later hX12.out hC
            have c10 := blk_cell hg 10
            simp at c10
            simp [execOp, go_sem, kc, t82, c10]
            exact ⟨hC, Below.refl _ _, rfl⟩
          · intro v W ρ y hC kc kf ks ki ky ku kd
            have dg : v 15 = .bool false := by first | exact kd _ (Array.mem_of_getElem? (i := 0) rfl) rfl | exact kd _ (Array.mem_of_getElem? (i := 1) rfl) rfl | exact kd _ (Array.mem_of_getElem? (i := 2) rfl) rfl | exact kd _ (Array.mem_of_getElem? (i := 3) rfl) rfl | exact kd _ (Array.mem_of_getElem? (i := 4) rfl) rfl | exact kd _ (Array.mem_of_getElem? (i := 5) rfl) rfl
            have hy := ky 15 81 false (by decide) rfl dg
            rw [if_pos (by simp [Region.wanted, hy])]
            have d17 : v 17 = .int .i64 C := by first | exact kd _ (Array.mem_of_getElem? (i := 0) rfl) rfl | exact kd _ (Array.mem_of_getElem? (i := 1) rfl) rfl | exact kd _ (Array.mem_of_getElem? (i := 2) rfl) rfl | exact kd _ (Array.mem_of_getElem? (i := 3) rfl) rfl | exact kd _ (Array.mem_of_getElem? (i := 4) rfl) rfl | exact kd _ (Array.mem_of_getElem? (i := 5) rfl) rfl
            have t83 : ρ (.tmp 83) = .int .i64 C := (ks 17 83 (by decide) rfl).trans d17
            simp [execOp, go_sem, kc, t83, eC]
            exact ⟨hC, Below.refl _ _, rfl⟩
          · intro v W ρ y hC kc kf ks ki ky ku kd
            have dg : v 15 = .bool false := by first | exact kd _ (Array.mem_of_getElem? (i := 0) rfl) rfl | exact kd _ (Array.mem_of_getElem? (i := 1) rfl) rfl | exact kd _ (Array.mem_of_getElem? (i := 2) rfl) rfl | exact kd _ (Array.mem_of_getElem? (i := 3) rfl) rfl | exact kd _ (Array.mem_of_getElem? (i := 4) rfl) rfl | exact kd _ (Array.mem_of_getElem? (i := 5) rfl) rfl
            have hy := ky 15 81 false (by decide) rfl dg
            rw [if_pos (by simp [Region.wanted, hy])]
            have d18 : v 18 = .bool false := by first | exact kd _ (Array.mem_of_getElem? (i := 0) rfl) rfl | exact kd _ (Array.mem_of_getElem? (i := 1) rfl) rfl | exact kd _ (Array.mem_of_getElem? (i := 2) rfl) rfl | exact kd _ (Array.mem_of_getElem? (i := 3) rfl) rfl | exact kd _ (Array.mem_of_getElem? (i := 4) rfl) rfl | exact kd _ (Array.mem_of_getElem? (i := 5) rfl) rfl
            have t84 : ρ (.tmp 84) = .bool false := (ks 18 84 (by decide) rfl).trans d18
            simp [execOp, go_sem, kc, t84]
            exact ⟨hC, Below.refl _ _, rfl⟩
          · intro v W ρ y hC kc kf ks ki ky ku kd
            have dg : v 19 = .bool false := by first | exact kd _ (Array.mem_of_getElem? (i := 0) rfl) rfl | exact kd _ (Array.mem_of_getElem? (i := 1) rfl) rfl | exact kd _ (Array.mem_of_getElem? (i := 2) rfl) rfl | exact kd _ (Array.mem_of_getElem? (i := 3) rfl) rfl | exact kd _ (Array.mem_of_getElem? (i := 4) rfl) rfl | exact kd _ (Array.mem_of_getElem? (i := 5) rfl) rfl
            have hy := ky 19 85 false (by decide) rfl dg
            rw [if_neg (by simp [Region.wanted, hy])]
            exact ⟨Below.refl _ _, rfl⟩
          · intro v W ρ y hC kc kf ks ki ky ku kd
            have dg : v 19 = .bool false := by first | exact kd _ (Array.mem_of_getElem? (i := 0) rfl) rfl | exact kd _ (Array.mem_of_getElem? (i := 1) rfl) rfl | exact kd _ (Array.mem_of_getElem? (i := 2) rfl) rfl | exact kd _ (Array.mem_of_getElem? (i := 3) rfl) rfl | exact kd _ (Array.mem_of_getElem? (i := 4) rfl) rfl | exact kd _ (Array.mem_of_getElem? (i := 5) rfl) rfl
            have hy := ky 19 85 false (by decide) rfl dg
            rw [if_neg (by simp [Region.wanted, hy])]
            exact ⟨Below.refl _ _, rfl⟩
          · intro v W ρ y hC kc kf ks ki ky ku kd
            have dg : v 19 = .bool false := by first | exact kd _ (Array.mem_of_getElem? (i := 0) rfl) rfl | exact kd _ (Array.mem_of_getElem? (i := 1) rfl) rfl | exact kd _ (Array.mem_of_getElem? (i := 2) rfl) rfl | exact kd _ (Array.mem_of_getElem? (i := 3) rfl) rfl | exact kd _ (Array.mem_of_getElem? (i := 4) rfl) rfl | exact kd _ (Array.mem_of_getElem? (i := 5) rfl) rfl
            have hy := ky 19 85 false (by decide) rfl dg
            rw [if_neg (by simp [Region.wanted, hy])]
            exact ⟨Below.refl _ _, rfl⟩
          · intro v W ρ y hC kc kf ks ki ky ku kd
            have dg : v 19 = .bool false := by first | exact kd _ (Array.mem_of_getElem? (i := 0) rfl) rfl | exact kd _ (Array.mem_of_getElem? (i := 1) rfl) rfl | exact kd _ (Array.mem_of_getElem? (i := 2) rfl) rfl | exact kd _ (Array.mem_of_getElem? (i := 3) rfl) rfl | exact kd _ (Array.mem_of_getElem? (i := 4) rfl) rfl | exact kd _ (Array.mem_of_getElem? (i := 5) rfl) rfl
            have hy := ky 19 85 false (by decide) rfl dg
            rw [if_neg (by simp [Region.wanted, hy])]
            exact ⟨Below.refl _ _, rfl⟩
          · intro v W ρ y hC kc kf ks ki ky ku kd
            have dg : v 19 = .bool false := by first | exact kd _ (Array.mem_of_getElem? (i := 0) rfl) rfl | exact kd _ (Array.mem_of_getElem? (i := 1) rfl) rfl | exact kd _ (Array.mem_of_getElem? (i := 2) rfl) rfl | exact kd _ (Array.mem_of_getElem? (i := 3) rfl) rfl | exact kd _ (Array.mem_of_getElem? (i := 4) rfl) rfl | exact kd _ (Array.mem_of_getElem? (i := 5) rfl) rfl
            have hy := ky 19 85 false (by decide) rfl dg
            rw [if_neg (by simp [Region.wanted, hy])]
            exact ⟨Below.refl _ _, rfl⟩
          · intro v W ρ y hC kc kf ks ki ky ku kd
            have dg : v 15 = .bool false := by first | exact kd _ (Array.mem_of_getElem? (i := 0) rfl) rfl | exact kd _ (Array.mem_of_getElem? (i := 1) rfl) rfl | exact kd _ (Array.mem_of_getElem? (i := 2) rfl) rfl | exact kd _ (Array.mem_of_getElem? (i := 3) rfl) rfl | exact kd _ (Array.mem_of_getElem? (i := 4) rfl) rfl | exact kd _ (Array.mem_of_getElem? (i := 5) rfl) rfl
            have hy := ky 15 81 false (by decide) rfl dg
            rw [if_pos (by simp [Region.wanted, hy])]
            have d19 : v 19 = .bool false := by first | exact kd _ (Array.mem_of_getElem? (i := 0) rfl) rfl | exact kd _ (Array.mem_of_getElem? (i := 1) rfl) rfl | exact kd _ (Array.mem_of_getElem? (i := 2) rfl) rfl | exact kd _ (Array.mem_of_getElem? (i := 3) rfl) rfl | exact kd _ (Array.mem_of_getElem? (i := 4) rfl) rfl | exact kd _ (Array.mem_of_getElem? (i := 5) rfl) rfl
            have t85 : ρ (.tmp 85) = .bool false := (ks 19 85 (by decide) rfl).trans d19
            simp [execOp, go_sem, kc, t85]
            exact ⟨hC, Below.refl _ _, rfl⟩
          · refine stepW_of_u ⟨rfl, fun v W ρ hC kc kf ks ki kd => ?_⟩
            have d15 : v 15 = .bool false := by first | exact kd _ (Array.mem_of_getElem? (i := 0) rfl) rfl | exact kd _ (Array.mem_of_getElem? (i := 1) rfl) rfl | exact kd _ (Array.mem_of_getElem? (i := 2) rfl) rfl | exact kd _ (Array.mem_of_getElem? (i := 3) rfl) rfl | exact kd _ (Array.mem_of_getElem? (i := 4) rfl) rfl | exact kd _ (Array.mem_of_getElem? (i := 5) rfl) rfl
            have t81 : ρ (.tmp 81) = .bool false := (ks 15 81 (by decide) rfl).trans d15
            have d25 : v 25 = .bool false := by first | exact kd _ (Array.mem_of_getElem? (i := 0) rfl) rfl | exact kd _ (Array.mem_of_getElem? (i := 1) rfl) rfl | exact kd _ (Array.mem_of_getElem? (i := 2) rfl) rfl | exact kd _ (Array.mem_of_getElem? (i := 3) rfl) rfl | exact kd _ (Array.mem_of_getElem? (i := 4) rfl) rfl | exact kd _ (Array.mem_of_getElem? (i := 5) rfl) rfl
            have t91 : ρ (.tmp 91) = .bool false := (ks 25 91 (by decide) rfl).trans d25
            simp [execOp, go_sem, kc, t81, t91]
            exact ⟨hC, Below.refl _ _, rfl⟩
  intro v13 W13 hb13 hv13
  have hv : v13 26 = .bool false := hv13
  simp [upto, Act.put]
  rw [hv]
  clear hv hv13 HTn HTy HTs HPs HXb HXt
  have hL13 := hidS (hL12.out.trans (hb13.mono hL12.out.size))
  have hY13 := hidS (blk_later hY12.out hb13)
  clear hb13 hL12 hY12
  clear hP12 hX12
  by_cases ha : addrB n = true
  · obtain ⟨z1, z2, z3⟩ := HAy.out ha
    have HAr := hidS (fun W (h : Below w.heap.size w W) => implAddrRead_any S W (small_141 (Nat.le_trans HAz.out (by omega))) (HK.out.later h))
    rw [z2, z3] at HAr
    have eSn : (S.toList == []) = false := by
      rw [beq_eq_false_iff_ne]
      intro e
      rw [e] at z1
      cases z1
    clear z1 z2 z3 HAy HAn ha
    by_cases hd : D = 0
    · have e := HYt.out hd
      rw [e] at HYa
      subst hd
      clear e HYt
      have y0 := blk_cell hY13.out 0
      have y1 := blk_cell hY13.out 1
      have y2 := blk_cell hY13.out 2
      simp at y0 y1 y2
      have hq := fun W => eql_num n 0 0 W
      go_wp2_with fail
      refine (HAr.out W13 hL13.out).mono ?_
      rintro _ w14 ⟨rfl, hb14⟩
      have hL14 := hidS (hL13.out.trans (hb14.mono hL13.out.size))
      have hY14 := hidS (blk_later hY13.out hb14)
      clear hb14 hL13 hY13 y0 y1 y2
      have y0 := blk_cell hY14.out 0
      have y1 := blk_cell hY14.out 1
      have y2 := blk_cell hY14.out 2
      simp at y0 y1 y2
      go_wp2_with fail
      refine (HYa.out w14 hL14.out).mono ?_
      rintro _ w15 ⟨rfl, hb15⟩
      have hL15 := hidS (hL14.out.trans (hb15.mono hL14.out.size))
      clear hb15 hL14 y0 y1 y2
      go_wp2_with fail
      go_ret
      exact ⟨rfl, hL15.out⟩
    · clear HYt HYa
      have y0 := blk_cell hY13.out 0
      have y1 := blk_cell hY13.out 1
      have y2 := blk_cell hY13.out 2
      simp at y0 y1 y2
      have hq := fun W => eql_num n 0 0 W
      go_wp2_with fail
      refine (HAr.out W13 hL13.out).mono ?_
      rintro _ w14 ⟨rfl, hb14⟩
      have hL14 := hidS (hL13.out.trans (hb14.mono hL13.out.size))
      have hY14 := hidS (blk_later hY13.out hb14)
      clear hb14 hL13 hY13 y0 y1 y2
      have y0 := blk_cell hY14.out 0
      have y1 := blk_cell hY14.out 1
      have y2 := blk_cell hY14.out 2
      simp at y0 y1 y2
      go_wp2_with fail
      go_ret
      exact ⟨rfl, hL14.out⟩
  · have e := HAn.out (by simpa using ha)
    subst e
    clear HAy HAn ha HAz
    by_cases hd : D = 0
    · have e := HYt.out hd
      rw [e] at HYa
      subst hd
      clear e HYt
      have y0 := blk_cell hY13.out 0
      have y1 := blk_cell hY13.out 1
      have y2 := blk_cell hY13.out 2
      simp at y0 y1 y2
      have hq := fun W => eql_num n 0 0 W
      go_wp2_with fail
      refine (HYa.out W13 hL13.out).mono ?_
      rintro _ w15 ⟨rfl, hb15⟩
      have hL15 := hidS (hL13.out.trans (hb15.mono hL13.out.size))
      clear hb15 hL13 y0 y1 y2
      go_wp2_with fail
      go_ret
      exact ⟨rfl, hL15.out⟩
    · clear HYt HYa
      have y0 := blk_cell hY13.out 0
      have y1 := blk_cell hY13.out 1
      have y2 := blk_cell hY13.out 2
      simp at y0 y1 y2
      have hq := fun W => eql_num n 0 0 W
      go_wp2_with fail
      go_ret
      exact ⟨rfl, hL13.out⟩
end Go.Proofs.YtedknnkdnccfmaaGreatDoor
