/- Proved here: impl.PacketBytes answers the bytes of a right packet, joined of its head and its part, its part's check laid in; all old memory stays (conditions: the packet is right; what its part's functions answer is told). -/
import Derived.Test.YtedknnkdnccfmaaGreatDoorAll33
import Derived.Test.YtedknnkdnccfmaaGreatDoorHeadI
import Derived.Test.YtedknnkdnccfmaaGreatDoorEndsI
namespace Go.Proofs.YtedknnkdnccfmaaGreatDoor
open Go.ChangeShapes Go.WideShapes Go.ChangeAt Go.RowKit
open Go.ChangeMaps (open_string shut_string)
set_option linter.unusedVariables false
set_option maxRecDepth 100000
set_option linter.unusedSimpArgs false

theorem partC_word (p : Pk) (t : ByteArray) : wordB (partC p t) = true := by
  unfold partC
  split
  · exact checkAns_word
  · split
    · rfl
    · exact checkAns_word
theorem ValsAt.nats {B : Nat} {ks : List Nat} {W : World} (h : ValsAt B (ks.map fun k : Nat => Value.int .i64 (k : Int)) W) : ∀ j, (hj : j < ks.length) → W.cell? ⟨B, j, none⟩ = some (.int .i64 (ks[j] : Int)) := fun j hj => by
  have := h.2 j (by simpa using hj)
  simpa using this
theorem cat_size2 (a b : ByteArray) : (catT [a, b]).size = a.size + b.size := by rw [cat2, ByteArray.size_append]
theorem store_new {w : World} {cs : Array Value} {t : TypeId} (l : List UInt8) (hl : cs.size = l.length) : Row8 w.heap.size l ((w.alloc (.cells cs t)).setCells w.heap.size 0 (cells8 l)) := by
  refine row8_set (fun j hj => ?_) (by simp)
  have h := heap_newG w (.cells cs t)
  exact ⟨by simp only [World.cell?, h]; simp [hl, hj], by simp only [World.frozen?, h]; simp⟩

set_option maxHeartbeats 4000000 in
theorem implBytes_gen (p : Pk) (T : TypeId) (val : Value) (fb : FuncId) (t : ByteArray) (k : Nat) (w : World) (h : rightB p = true) (ht : t.size ≤ 200) (hk : k ≤ 100)
    (hPT : ∀ W, Calls Tryz.prog 41 #[.agg #[.int .i64 p.src, .int .i64 p.dst, .int .i64 p.proto, .int .i64 p.a, .int .i64 p.b, .int .i64 p.kind, .int .i64 p.flags, .int .i64 p.seq, .int .i64 p.ack, .string p.body]] W fun e w' => e = .returned (.iface T val) ∧ Below W.heap.size W w')
    (hm1 : ∀ W, (method 327 T val "loop.example/g00542/impl.bytes").run Tryz.prog W = .ok (fb, val) W)
    (hc1 : ∀ W, (callFunc fb #[val]).run Tryz.prog W = .ok (.enter fb #[val]) W)
    (hB : ∀ W, Calls Tryz.prog fb #[val] W fun e w' => e = .returned (.string t) ∧ Below W.heap.size W w')
    (hCP : ∀ W, Calls Tryz.prog 45 #[.agg #[.int .i64 p.src, .int .i64 p.dst, .int .i64 p.proto, .int .i64 p.a, .int .i64 p.b, .int .i64 p.kind, .int .i64 p.flags, .int .i64 p.seq, .int .i64 p.ack, .string p.body], .iface T val, .string t] W fun e w' => e = .returned (.int .i64 (partC p t)) ∧ Below W.heap.size W w')
    (hCA : ∀ W, Calls Tryz.prog 46 #[.iface T val] W fun e w' => e = .returned (.int .i64 (k : Int)) ∧ Below W.heap.size W w') :
    Calls Tryz.prog 6 #[.agg #[.int .i64 p.src, .int .i64 p.dst, .int .i64 p.proto, .int .i64 p.a, .int .i64 p.b, .int .i64 p.kind, .int .i64 p.flags, .int .i64 p.seq, .int .i64 p.ack, .string p.body]] w fun e w' => e = .returned (.string ⟨(putAll (twoT (partC p t).toNat).data.toList (catT [headT p t.size (checkAns (headT p t.size 0)), t]).data.toList [k]).toArray⟩) ∧ Below w.heap.size w w' := by
  have hF := fine_of h
  have hwc := partC_word p t
  have hp1 : 0 ≤ p.proto := by rcases hF.proto with q | q | q <;> omega
  have hp2 : p.proto ≤ 255 := by rcases hF.proto with q | q | q <;> omega
  have hX := hidS (fun W => implRight_any p W (by have := hF.body; unfold maxLen; omega))
  have hH := hidS (fun W => headOf_x p t.size W hF.src hF.dst hp1 hp2 (by omega))
  have HPT := hidS hPT
  have HM1 := hidS hm1
  have HC1 := hidS hc1
  have HB := hidS hB
  have HCP := hidS hCP
  have HCA := hidS hCA
  clear hPT hm1 hc1 hB hCP hCA hF
  have HP := hidS (heap_newG w (.cells #[.int .i64 p.src, .int .i64 p.dst, .int .i64 p.proto, .int .i64 p.a, .int .i64 p.b, .int .i64 p.kind, .int .i64 p.flags, .int .i64 p.seq, .int .i64 p.ack, .string p.body] 24))
  have hB1 := hidS ((Below.refl w.heap.size w).alloc (Nat.le_refl _) (.cells #[.int .i64 p.src, .int .i64 p.dst, .int .i64 p.proto, .int .i64 p.a, .int .i64 p.b, .int .i64 p.kind, .int .i64 p.flags, .int .i64 p.seq, .int .i64 p.ack, .string p.body] 24))
  have h20 := headT_size p t.size (checkAns (headT p t.size 0))
  go_enter Tryz.func6, Tryz.ntmps6
  go_wp2_with fail
  refine (hX.out _).mono ?_
  rintro _ w2 ⟨rfl, hb2⟩
  rw [h]
  have hG := blk_later HP.out hb2
  have hL := hidS (hB1.out.trans (hb2.mono hB1.out.size))
  clear hB1 HP hb2 hX
  have c0 := blk_cell hG 0
  have c1 := blk_cell hG 1
  have c2 := blk_cell hG 2
  have c3 := blk_cell hG 3
  have c4 := blk_cell hG 4
  have c5 := blk_cell hG 5
  have c6 := blk_cell hG 6
  have c7 := blk_cell hG 7
  have c8 := blk_cell hG 8
  have c9 := blk_cell hG 9
  simp at c0 c1 c2 c3 c4 c5 c6 c7 c8 c9
  go_wp2_with fail
  refine (HPT.out _).mono ?_
  rintro _ w3 ⟨rfl, hb3⟩
  have hG3 := blk_later hG hb3
  have hL3 := hidS (hL.out.trans (hb3.mono hL.out.size))
  clear hG hL hb3 HPT c0 c1 c2 c3 c4 c5 c6 c7 c8 c9
  go_wp2_with fail
  rw [HM1.out]
  go_wp2_with fail
  rw [HC1.out, Oper.upon_enter]
  refine (HB.out _).mono ?_
  rintro _ w4 ⟨rfl, hb4⟩
  have hG4 := blk_later hG3 hb4
  have hL4 := hidS (hL3.out.trans (hb4.mono hL3.out.size))
  clear hG3 hL3 hb4 HM1 HC1 HB
  have c0 := blk_cell hG4 0
  have c1 := blk_cell hG4 1
  have c2 := blk_cell hG4 2
  have c3 := blk_cell hG4 3
  have c4 := blk_cell hG4 4
  have c5 := blk_cell hG4 5
  have c6 := blk_cell hG4 6
  have c7 := blk_cell hG4 7
  have c8 := blk_cell hG4 8
  have c9 := blk_cell hG4 9
  simp at c0 c1 c2 c3 c4 c5 c6 c7 c8 c9
  go_wp2_with fail
  refine (hH.out _).mono ?_
  rintro _ w5 ⟨rfl, hb5⟩
  have hG5 := blk_later hG4 hb5
  have hL5 := hidS (hL4.out.trans (hb5.mono hL4.out.size))
  clear hG4 hL4 hb5 hH c0 c1 c2 c3 c4 c5 c6 c7 c8 c9
  dsimp only
  iterate 4 (first | go_values | go_skip | go_guarded | go_step | go_upon | go_back)
  have hlen : (cells8 (headT p t.size (checkAns (headT p t.size 0))).data.toList).length = 20 := by rw [cells8, List.length_map]; exact head_len p t.size _
  have hsz : ((Tryz.prog).info? 63).map (·.size) = some (cells8 (headT p t.size (checkAns (headT p t.size 0))).data.toList).length := by rw [hlen]; kernel_rfl
  have hth : ∀ k, k = 20 → (w5.alloc (.cells #[.int .u8 0, .int .u8 0, .int .u8 0, .int .u8 0, .int .u8 0, .int .u8 0, .int .u8 0, .int .u8 0, .int .u8 0, .int .u8 0, .int .u8 0, .int .u8 0, .int .u8 0, .int .u8 0, .int .u8 0, .int .u8 0, .int .u8 0, .int .u8 0, .int .u8 0, .int .u8 0] 63)).there w5.heap.size 0 k := fun k hk j hj => by
    subst hk
    have h := heap_newG w5 (.cells #[.int .u8 0, .int .u8 0, .int .u8 0, .int .u8 0, .int .u8 0, .int .u8 0, .int .u8 0, .int .u8 0, .int .u8 0, .int .u8 0, .int .u8 0, .int .u8 0, .int .u8 0, .int .u8 0, .int .u8 0, .int .u8 0, .int .u8 0, .int .u8 0, .int .u8 0, .int .u8 0] 63)
    exact ⟨by simp only [World.cell?, h]; simp [hj], by simp only [World.frozen?, h]; simp⟩
  refine wpList_store_mid rfl 63 _ _ rfl w5.heap.size 0 (cells8 (headT p t.size (checkAns (headT p t.size 0))).data.toList).toArray rfl rfl (hth _ (by simpa using hlen)) (by simpa using hsz) (all_oneCell_toArray (fun v hv => by simp only [cells8, List.mem_map] at hv; obtain ⟨b, _, rfl⟩ := hv; rfl)) ?_
  have HR6 := hidS (store_new (w := w5) (cs := #[.int .u8 0, .int .u8 0, .int .u8 0, .int .u8 0, .int .u8 0, .int .u8 0, .int .u8 0, .int .u8 0, .int .u8 0, .int .u8 0, .int .u8 0, .int .u8 0, .int .u8 0, .int .u8 0, .int .u8 0, .int .u8 0, .int .u8 0, .int .u8 0, .int .u8 0, .int .u8 0]) (t := 63) (headT p t.size (checkAns (headT p t.size 0))).data.toList (by rw [head_len]; rfl))
  have HG6 := hidS ((World.heap_setCells_other (w5.alloc (.cells #[.int .u8 0, .int .u8 0, .int .u8 0, .int .u8 0, .int .u8 0, .int .u8 0, .int .u8 0, .int .u8 0, .int .u8 0, .int .u8 0, .int .u8 0, .int .u8 0, .int .u8 0, .int .u8 0, .int .u8 0, .int .u8 0, .int .u8 0, .int .u8 0, .int .u8 0, .int .u8 0] 63)) w5.heap.size 0 (cells8 (headT p t.size (checkAns (headT p t.size 0))).data.toList) (by have := blk_lt hG5; simp; omega) (by have := blk_lt hG5; omega)).trans (blk_alloc hG5 (.cells #[.int .u8 0, .int .u8 0, .int .u8 0, .int .u8 0, .int .u8 0, .int .u8 0, .int .u8 0, .int .u8 0, .int .u8 0, .int .u8 0, .int .u8 0, .int .u8 0, .int .u8 0, .int .u8 0, .int .u8 0, .int .u8 0, .int .u8 0, .int .u8 0, .int .u8 0, .int .u8 0] 63)))
  have HB6 := hidS (below_setCells (B := w.heap.size) (b := w5.heap.size) (by have := hL5.out.size; omega) (cells8 (headT p t.size (checkAns (headT p t.size 0))).data.toList) 0 _ (hL5.out.alloc hL5.out.size (.cells #[.int .u8 0, .int .u8 0, .int .u8 0, .int .u8 0, .int .u8 0, .int .u8 0, .int .u8 0, .int .u8 0, .int .u8 0, .int .u8 0, .int .u8 0, .int .u8 0, .int .u8 0, .int .u8 0, .int .u8 0, .int .u8 0, .int .u8 0, .int .u8 0, .int .u8 0, .int .u8 0] 63)))
  simp only [Act.put]
  clear hth hsz hlen hG5 hL5
  generalize (w5.alloc (.cells #[.int .u8 0, .int .u8 0, .int .u8 0, .int .u8 0, .int .u8 0, .int .u8 0, .int .u8 0, .int .u8 0, .int .u8 0, .int .u8 0, .int .u8 0, .int .u8 0, .int .u8 0, .int .u8 0, .int .u8 0, .int .u8 0, .int .u8 0, .int .u8 0, .int .u8 0, .int .u8 0] 63)).setCells w5.heap.size 0 (cells8 (headT p t.size (checkAns (headT p t.size 0))).data.toList) = w6 at HR6 HG6 HB6 ⊢
  generalize cells8 (headT p t.size (checkAns (headT p t.size 0))).data.toList = L6
  go_wp2_with fail
  refine grow_kinds 14 [.is (.slice (some ⟨w5.heap.size, 0, none⟩) 20 20), .is (.string (headT p t.size (checkAns (headT p t.size 0)))), .is (.string t), .vals [.string (headT p t.size (checkAns (headT p t.size 0))), .string t], .is (.string (catT [(headT p t.size (checkAns (headT p t.size 0))), t])), .is (.agg #[.int .i64 p.src, .int .i64 p.dst, .int .i64 p.proto, .int .i64 p.a, .int .i64 p.b, .int .i64 p.kind, .int .i64 p.flags, .int .i64 p.seq, .int .i64 p.ack, .string p.body]), .is (.iface T val), .is (.string t), .is (.int .i64 (partC p t)), .is (.iface T val), .is (.int .i64 (k : Int)), .vals [.int .i64 (k : Int)], .is (.string ⟨(putAll (twoT (partC p t).toNat).data.toList (catT [headT p t.size (checkAns (headT p t.size 0)), t]).data.toList [k]).toArray⟩), .is (.string ⟨(putAll (twoT (partC p t).toNat).data.toList (catT [headT p t.size (checkAns (headT p t.size 0)), t]).data.toList [k]).toArray⟩)] rfl (by kernel_rfl) (by kernel_rfl) ?steps ?fin
  case steps =>
    refine ⟨?_, ?_, ?_, ?_, ?_, ?_, ?_, ?_, ?_, ?_, ?_, ?_, ?_, ?_, trivial⟩
    · refine ⟨rfl, fun v W ρ hC kc kf ks ki kd => ?_⟩
      have t5 : ρ (.tmp 5) = .pointer (some ⟨w5.heap.size, 0, none⟩) := ki 5 (by decide)
      simp [execOp, go_sem, t5, kc]
      exact ⟨hC, Below.refl _ _, rfl⟩
    · refine ⟨rfl, fun v W ρ hC kc kf ks ki kd => ?_⟩
      have d0 : v 0 = .slice (some ⟨w5.heap.size, 0, none⟩) 20 20 := kd _ (Array.mem_of_getElem? (i := 0) rfl) rfl
      have t18 : ρ (.tmp 18) = v 0 := ks 0 18 (by decide) rfl
      rw [d0] at t18
      have hcv := BytesAt.conv 20 (HR6.out.later hC).bytes
      rw [head_len] at hcv
      have eh : (⟨(headT p t.size (checkAns (headT p t.size 0))).data.toList.toArray⟩ : ByteArray) = headT p t.size (checkAns (headT p t.size 0)) := by simp
      rw [eh] at hcv
      simp [execOp, go_sem, t18, hcv]
      exact ⟨hC, Below.refl _ _, rfl⟩
    · refine ⟨rfl, fun v W ρ hC kc kf ks ki kd => ?_⟩
      have t4 : ρ (.tmp 4) = .string t := ki 4 (by decide)
      simp [execOp, go_sem, t4]
      exact ⟨hC, Below.refl _ _, rfl⟩
    · refine ⟨rfl, fun v W ρ hC kc kf ks ki kd => ?_⟩
      have d1 : v 1 = .string (headT p t.size (checkAns (headT p t.size 0))) := kd _ (Array.mem_of_getElem? (i := 0) rfl) rfl
      have t19 : ρ (.tmp 19) = v 1 := ks 1 19 (by decide) rfl
      rw [d1] at t19
      have d2 : v 2 = .string t := kd _ (Array.mem_of_getElem? (i := 1) rfl) rfl
      have t20 : ρ (.tmp 20) = v 2 := ks 2 20 (by decide) rfl
      rw [d2] at t20
      simp [execOp, go_sem, t19, t20]
      exact ⟨hC.alloc hC.size _, (Below.refl _ _).alloc (Nat.le_refl _) _, W.heap.size, rfl, vals_at [.string (headT p t.size (checkAns (headT p t.size 0))), .string t] _⟩
    · refine ⟨rfl, fun v W ρ hC kc kf ks ki kd => ?_⟩
      obtain ⟨B3, e3, hB3⟩ : ∃ B, v 3 = .slice (some ⟨B, 0, none⟩) 2 2 ∧ ValsAt B [.string (headT p t.size (checkAns (headT p t.size 0))), .string t] W := kd _ (Array.mem_of_getElem? (i := 0) rfl) rfl
      have t21 : ρ (.tmp 21) = v 3 := ks 3 21 (by decide) rfl
      rw [e3] at t21
      simp [execOp, go_sem, t21, kf]
      exact Calls.mono (joinTexts_any B3 [(headT p t.size (checkAns (headT p t.size 0))), t] _ (ValsAt.strs (ts := [(headT p t.size (checkAns (headT p t.size 0))), t]) hB3) hB3.1 (by simp) (by simp; omega)) (fun e x h => ⟨_, h.1, hC.trans (h.2.mono hC.size), h.2, rfl⟩)
    · refine ⟨rfl, fun v W ρ hC kc kf ks ki kd => ?_⟩
      have t1 : ρ (.tmp 1) = .pointer (some ⟨w.heap.size, 0, none⟩) := ki 1 (by decide)
      have hp := blk_later HG6.out hC
      have c0 := blk_cell hp 0
      have c1 := blk_cell hp 1
      have c2 := blk_cell hp 2
      have c3 := blk_cell hp 3
      have c4 := blk_cell hp 4
      have c5 := blk_cell hp 5
      have c6 := blk_cell hp 6
      have c7 := blk_cell hp 7
      have c8 := blk_cell hp 8
      have c9 := blk_cell hp 9
      simp at c0 c1 c2 c3 c4 c5 c6 c7 c8 c9
      simp [execOp, go_sem, t1, c0, c1, c2, c3, c4, c5, c6, c7, c8, c9]
      exact ⟨hC, Below.refl _ _, rfl⟩
    · refine ⟨rfl, fun v W ρ hC kc kf ks ki kd => ?_⟩
      have t3 : ρ (.tmp 3) = .iface T val := ki 3 (by decide)
      simp [execOp, go_sem, t3]
      exact ⟨hC, Below.refl _ _, rfl⟩
    · refine ⟨rfl, fun v W ρ hC kc kf ks ki kd => ?_⟩
      have t4 : ρ (.tmp 4) = .string t := ki 4 (by decide)
      simp [execOp, go_sem, t4]
      exact ⟨hC, Below.refl _ _, rfl⟩
    · refine ⟨rfl, fun v W ρ hC kc kf ks ki kd => ?_⟩
      have d5 : v 5 = .agg #[.int .i64 p.src, .int .i64 p.dst, .int .i64 p.proto, .int .i64 p.a, .int .i64 p.b, .int .i64 p.kind, .int .i64 p.flags, .int .i64 p.seq, .int .i64 p.ack, .string p.body] := kd _ (Array.mem_of_getElem? (i := 0) rfl) rfl
      have t23 : ρ (.tmp 23) = v 5 := ks 5 23 (by decide) rfl
      rw [d5] at t23
      have d6 : v 6 = .iface T val := kd _ (Array.mem_of_getElem? (i := 1) rfl) rfl
      have t24 : ρ (.tmp 24) = v 6 := ks 6 24 (by decide) rfl
      rw [d6] at t24
      have d7 : v 7 = .string t := kd _ (Array.mem_of_getElem? (i := 2) rfl) rfl
      have t25 : ρ (.tmp 25) = v 7 := ks 7 25 (by decide) rfl
      rw [d7] at t25
      simp [execOp, go_sem, t23, t24, t25, kf]
      exact Calls.mono (HCP.out _) (fun e x h => ⟨_, h.1, hC.trans (h.2.mono hC.size), h.2, rfl⟩)
    · refine ⟨rfl, fun v W ρ hC kc kf ks ki kd => ?_⟩
      have t3 : ρ (.tmp 3) = .iface T val := ki 3 (by decide)
      simp [execOp, go_sem, t3]
      exact ⟨hC, Below.refl _ _, rfl⟩
    · refine ⟨rfl, fun v W ρ hC kc kf ks ki kd => ?_⟩
      have d9 : v 9 = .iface T val := kd _ (Array.mem_of_getElem? (i := 0) rfl) rfl
      have t27 : ρ (.tmp 27) = v 9 := ks 9 27 (by decide) rfl
      rw [d9] at t27
      simp [execOp, go_sem, t27, kf]
      exact Calls.mono (HCA.out _) (fun e x h => ⟨_, h.1, hC.trans (h.2.mono hC.size), h.2, rfl⟩)
    · refine ⟨rfl, fun v W ρ hC kc kf ks ki kd => ?_⟩
      have d10 : v 10 = .int .i64 (k : Int) := kd _ (Array.mem_of_getElem? (i := 0) rfl) rfl
      have t28 : ρ (.tmp 28) = v 10 := ks 10 28 (by decide) rfl
      rw [d10] at t28
      simp [execOp, go_sem, t28]
      exact ⟨hC.alloc hC.size _, (Below.refl _ _).alloc (Nat.le_refl _) _, W.heap.size, rfl, vals_at [.int .i64 (k : Int)] _⟩
    · refine ⟨rfl, fun v W ρ hC kc kf ks ki kd => ?_⟩
      have d4 : v 4 = .string (catT [(headT p t.size (checkAns (headT p t.size 0))), t]) := kd _ (Array.mem_of_getElem? (i := 0) rfl) rfl
      have t22 : ρ (.tmp 22) = v 4 := ks 4 22 (by decide) rfl
      rw [d4] at t22
      have d8 : v 8 = .int .i64 (partC p t) := kd _ (Array.mem_of_getElem? (i := 1) rfl) rfl
      have t26 : ρ (.tmp 26) = v 8 := ks 8 26 (by decide) rfl
      rw [d8] at t26
      obtain ⟨B11, e11, hB11⟩ : ∃ B, v 11 = .slice (some ⟨B, 0, none⟩) 1 1 ∧ ValsAt B [.int .i64 (k : Int)] W := kd _ (Array.mem_of_getElem? (i := 2) rfl) rfl
      have t29 : ρ (.tmp 29) = v 11 := ks 11 29 (by decide) rfl
      rw [e11] at t29
      simp [execOp, go_sem, t22, t26, t29, kf]
      exact Calls.mono (withWord_x (catT [headT p t.size (checkAns (headT p t.size 0)), t]) (partC p t) B11 1 [k] _ hwc (ValsAt.nats (ks := [k]) hB11) hB11.1 (by simp) (by simp; omega) (by rw [cat_size2, h20]; omega)) (fun e x h => ⟨_, h.1, hC.trans (h.2.mono hC.size), h.2, rfl⟩)
    · refine ⟨rfl, fun v W ρ hC kc kf ks ki kd => ?_⟩
      have d12 : v 12 = .string ⟨(putAll (twoT (partC p t).toNat).data.toList (catT [headT p t.size (checkAns (headT p t.size 0)), t]).data.toList [k]).toArray⟩ := kd _ (Array.mem_of_getElem? (i := 0) rfl) rfl
      have t30 : ρ (.tmp 30) = v 12 := ks 12 30 (by decide) rfl
      rw [d12] at t30
      simp [execOp, go_sem, t30]
      exact ⟨hC, Below.refl _ _, rfl⟩
  case fin =>
    intro v W hC hall
    have hL2 : v 13 = .string ⟨(putAll (twoT (partC p t).toNat).data.toList (catT [headT p t.size (checkAns (headT p t.size 0)), t]).data.toList [k]).toArray⟩ := hall 13 (by decide)
    simp [upto, Act.put]
    rw [hL2]
    clear hall hL2
    have hE := hidS (HB6.out.trans (hC.mono HB6.out.size))
    go_wp2
    go_ret
    exact ⟨rfl, hE.out⟩
end Go.Proofs.YtedknnkdnccfmaaGreatDoor
