/- Proved here: impl.headOf answers the twenty bytes of a packet's head; all old memory stays (conditions: its addresses and its protocol's byte are within their bounds, at most 1000 bytes behind it). -/
import Derived.Test.YtedknnkdnccfmaaGreatDoorAll24
import Derived.Test.YtedknnkdnccfmaaGreatDoorCheck3
namespace Go.Proofs.YtedknnkdnccfmaaGreatDoor
open Go.ChangeShapes Go.WideShapes Go.ChangeAt Go.RowKit
open Go.ChangeMaps (open_string shut_string)
set_option linter.unusedVariables false
set_option maxRecDepth 100000
set_option linter.unusedSimpArgs false

/-- the state of headOf: the packet's block, the result's, and the array's bytes -/
structure HS (w : World) (p : Pk) (l : List UInt8) (W : World) : Prop where
  bel : Below w.heap.size w W
  h0 : W.heap[w.heap.size]? = some (.cells #[.int .i64 p.src, .int .i64 p.dst, .int .i64 p.proto, .int .i64 p.a, .int .i64 p.b, .int .i64 p.kind, .int .i64 p.flags, .int .i64 p.seq, .int .i64 p.ack, .string p.body] 24)
  h1 : W.heap[w.heap.size + 1]? = some (.cells #[.int .u8 0, .int .u8 0, .int .u8 0, .int .u8 0, .int .u8 0, .int .u8 0, .int .u8 0, .int .u8 0, .int .u8 0, .int .u8 0, .int .u8 0, .int .u8 0, .int .u8 0, .int .u8 0, .int .u8 0, .int .u8 0, .int .u8 0, .int .u8 0, .int .u8 0, .int .u8 0] 63)
  row : Row8 (w.heap.size + 1 + 1) l W
theorem HS.next {w : World} {p : Pk} {l l' : List UInt8} {W W' : World} (h : HS w p l W) (hbel : ∀ B, B ≤ (w.heap.size + 1 + 1) → Below B W W') (hoth : ∀ b, b < W.heap.size → b ≠ (w.heap.size + 1 + 1) → W'.heap[b]? = W.heap[b]?) (hrow : Row8 (w.heap.size + 1 + 1) l' W') : HS w p l' W' :=
  ⟨h.bel.trans (hbel w.heap.size (by omega)), (hoth _ (blk_lt h.h0) (by omega)).trans h.h0, (hoth _ (blk_lt h.h1) (by omega)).trans h.h1, hrow⟩
/-- bytes as cells -/
def cells8 (l : List UInt8) : List Value := l.map fun b => Value.int .u8 (b.toNat : Int)
theorem u8_of {z : Int} (h0 : 0 ≤ z) (h1 : z ≤ 255) : ((UInt8.ofNat z.toNat).toNat : Int) = z := by
  have : (UInt8.ofNat z.toNat).toNat = z.toNat % 256 := by simp
  rw [this]; omega
theorem there_new (w : World) (o o1 : Obj) (cs : Array Value) (t : TypeId) : (((w.alloc o).alloc o1).alloc (.cells cs t)).there (w.heap.size + 1 + 1) 0 cs.size := fun j hj => by
  have h : (((w.alloc o).alloc o1).alloc (.cells cs t)).heap[(w.heap.size + 1 + 1)]? = some (.cells cs t) := by
    have := heap_newG ((w.alloc o).alloc o1) (.cells cs t)
    simpa using this
  exact ⟨by simp only [World.cell?, h]; simp [hj], by simp only [World.frozen?, h]; simp⟩
theorem HS.there (w : World) (o o1 : Obj) : (((w.alloc o).alloc o1).alloc (.cells #[.int .u8 0, .int .u8 0, .int .u8 0, .int .u8 0, .int .u8 0, .int .u8 0, .int .u8 0, .int .u8 0, .int .u8 0, .int .u8 0, .int .u8 0, .int .u8 0, .int .u8 0, .int .u8 0, .int .u8 0, .int .u8 0, .int .u8 0, .int .u8 0, .int .u8 0, .int .u8 0] 63)).there (w.heap.size + 1 + 1) 0 20 := there_new w o o1 _ _
theorem row8_set {W : World} {g : Nat} {l : List UInt8} (ht : W.there g 0 l.length) (hg : g < W.heap.size) : Row8 g l (W.setCells g 0 (cells8 l)) := by
  have hl : (cells8 l).length = l.length := by simp [cells8]
  refine ⟨Nat.lt_of_lt_of_le hg (below_setCells (B := g) (Nat.le_refl g) _ _ _ (Below.refl g W)).size, fun j hj => ⟨?_, ?_⟩⟩
  · have := World.cell?_setCells_in g (cells8 l) 0 W (fun i hi => (ht i (by rw [← hl]; exact hi)).1) j (by rw [hl]; exact hj)
    rw [Nat.zero_add] at this
    rw [this]; simp [cells8]
  · rw [World.frozen?_setCells]; have := (ht j hj).2; rwa [Nat.zero_add] at this
theorem HS.start (w : World) (p : Pk) (hp1 : 0 ≤ p.proto) (hp2 : p.proto ≤ 255) :
    HS w p [69, 0, 0, 0, 0, 0, 0, 0, 64, UInt8.ofNat p.proto.toNat, 0, 0, 0, 0, 0, 0, 0, 0, 0, 0] ((((w.alloc (.cells #[.int .i64 p.src, .int .i64 p.dst, .int .i64 p.proto, .int .i64 p.a, .int .i64 p.b, .int .i64 p.kind, .int .i64 p.flags, .int .i64 p.seq, .int .i64 p.ack, .string p.body] 24)).alloc (.cells #[.int .u8 0, .int .u8 0, .int .u8 0, .int .u8 0, .int .u8 0, .int .u8 0, .int .u8 0, .int .u8 0, .int .u8 0, .int .u8 0, .int .u8 0, .int .u8 0, .int .u8 0, .int .u8 0, .int .u8 0, .int .u8 0, .int .u8 0, .int .u8 0, .int .u8 0, .int .u8 0] 63)).alloc (.cells #[.int .u8 0, .int .u8 0, .int .u8 0, .int .u8 0, .int .u8 0, .int .u8 0, .int .u8 0, .int .u8 0, .int .u8 0, .int .u8 0, .int .u8 0, .int .u8 0, .int .u8 0, .int .u8 0, .int .u8 0, .int .u8 0, .int .u8 0, .int .u8 0, .int .u8 0, .int .u8 0] 63)).setCells (w.heap.size + 1 + 1) 0 #[.int .u8 69, .int .u8 0, .int .u8 0, .int .u8 0, .int .u8 0, .int .u8 0, .int .u8 0, .int .u8 0, .int .u8 64, .int .u8 p.proto, .int .u8 0, .int .u8 0, .int .u8 0, .int .u8 0, .int .u8 0, .int .u8 0, .int .u8 0, .int .u8 0, .int .u8 0, .int .u8 0].toList) := by
  have e : #[.int .u8 69, .int .u8 0, .int .u8 0, .int .u8 0, .int .u8 0, .int .u8 0, .int .u8 0, .int .u8 0, .int .u8 64, .int .u8 p.proto, .int .u8 0, .int .u8 0, .int .u8 0, .int .u8 0, .int .u8 0, .int .u8 0, .int .u8 0, .int .u8 0, .int .u8 0, .int .u8 0].toList = cells8 [69, 0, 0, 0, 0, 0, 0, 0, 64, UInt8.ofNat p.proto.toNat, 0, 0, 0, 0, 0, 0, 0, 0, 0, 0] := by
    simp only [cells8, List.map_cons, List.map_nil, u8_of hp1 hp2]; rfl
  rw [e]
  have hsz : (((w.alloc (.cells #[.int .i64 p.src, .int .i64 p.dst, .int .i64 p.proto, .int .i64 p.a, .int .i64 p.b, .int .i64 p.kind, .int .i64 p.flags, .int .i64 p.seq, .int .i64 p.ack, .string p.body] 24)).alloc (.cells #[.int .u8 0, .int .u8 0, .int .u8 0, .int .u8 0, .int .u8 0, .int .u8 0, .int .u8 0, .int .u8 0, .int .u8 0, .int .u8 0, .int .u8 0, .int .u8 0, .int .u8 0, .int .u8 0, .int .u8 0, .int .u8 0, .int .u8 0, .int .u8 0, .int .u8 0, .int .u8 0] 63)).alloc (.cells #[.int .u8 0, .int .u8 0, .int .u8 0, .int .u8 0, .int .u8 0, .int .u8 0, .int .u8 0, .int .u8 0, .int .u8 0, .int .u8 0, .int .u8 0, .int .u8 0, .int .u8 0, .int .u8 0, .int .u8 0, .int .u8 0, .int .u8 0, .int .u8 0, .int .u8 0, .int .u8 0] 63)).heap.size = w.heap.size + 3 := by simp
  refine ⟨below_setCells (by omega) _ _ _ ((((Below.refl w.heap.size w).alloc (Nat.le_refl _) _).alloc (by simp) _).alloc (by simp; omega) _), ?_, ?_, row8_set (HS.there w _ _) (by omega)⟩
  · rw [World.heap_setCells_other _ _ _ _ (by omega) (by omega)]
    have := blk_alloc (blk_alloc (heap_newG w (.cells #[.int .i64 p.src, .int .i64 p.dst, .int .i64 p.proto, .int .i64 p.a, .int .i64 p.b, .int .i64 p.kind, .int .i64 p.flags, .int .i64 p.seq, .int .i64 p.ack, .string p.body] 24)) (.cells #[.int .u8 0, .int .u8 0, .int .u8 0, .int .u8 0, .int .u8 0, .int .u8 0, .int .u8 0, .int .u8 0, .int .u8 0, .int .u8 0, .int .u8 0, .int .u8 0, .int .u8 0, .int .u8 0, .int .u8 0, .int .u8 0, .int .u8 0, .int .u8 0, .int .u8 0, .int .u8 0] 63)) (.cells #[.int .u8 0, .int .u8 0, .int .u8 0, .int .u8 0, .int .u8 0, .int .u8 0, .int .u8 0, .int .u8 0, .int .u8 0, .int .u8 0, .int .u8 0, .int .u8 0, .int .u8 0, .int .u8 0, .int .u8 0, .int .u8 0, .int .u8 0, .int .u8 0, .int .u8 0, .int .u8 0] 63)
    simpa using this
  · rw [World.heap_setCells_other _ _ _ _ (by omega) (by omega)]
    have := blk_alloc (heap_newG (w.alloc (.cells #[.int .i64 p.src, .int .i64 p.dst, .int .i64 p.proto, .int .i64 p.a, .int .i64 p.b, .int .i64 p.kind, .int .i64 p.flags, .int .i64 p.seq, .int .i64 p.ack, .string p.body] 24)) (.cells #[.int .u8 0, .int .u8 0, .int .u8 0, .int .u8 0, .int .u8 0, .int .u8 0, .int .u8 0, .int .u8 0, .int .u8 0, .int .u8 0, .int .u8 0, .int .u8 0, .int .u8 0, .int .u8 0, .int .u8 0, .int .u8 0, .int .u8 0, .int .u8 0, .int .u8 0, .int .u8 0] 63)) (.cells #[.int .u8 0, .int .u8 0, .int .u8 0, .int .u8 0, .int .u8 0, .int .u8 0, .int .u8 0, .int .u8 0, .int .u8 0, .int .u8 0, .int .u8 0, .int .u8 0, .int .u8 0, .int .u8 0, .int .u8 0, .int .u8 0, .int .u8 0, .int .u8 0, .int .u8 0, .int .u8 0] 63)
    simpa using this
theorem Row8.range {W : World} {g : Nat} {l : List UInt8} (h : Row8 g l W) : W.rangeAt g 0 (cells8 l) := fun j v hv => by
  obtain ⟨hj, rfl⟩ := List.getElem?_eq_some_iff.1 hv
  have hj' : j < l.length := by simpa [cells8] using hj
  rw [Nat.zero_add, (h.2 j hj').1]; simp [cells8]
/-- the head's bytes, step by step -/
theorem two_list (n : Nat) : (twoT n).data.toList = [UInt8.ofNat (n / 256), UInt8.ofNat (n % 256)] := rfl
theorem four_list (n : Nat) : (fourT n).data.toList = [UInt8.ofNat (n / 65536 / 256), UInt8.ofNat (n / 65536 % 256), UInt8.ofNat (n % 65536 / 256), UInt8.ofNat (n % 65536 % 256)] := by
  unfold fourT; simp [two_list]
theorem head_list (p : Pk) (m : Nat) (c : Int) : (headT p m c).data.toList = [69, 0] ++ (twoT (20 + (m : Int)).toNat).data.toList ++ [0, 0, 0, 0, 64, UInt8.ofNat p.proto.toNat] ++ (twoT c.toNat).data.toList ++ (fourT p.src.toNat).data.toList ++ (fourT p.dst.toNat).data.toList := by
  unfold headT
  have h : (rowT [0, 0, 0, 0, 64, p.proto]).data.toList = [0, 0, 0, 0, 64, UInt8.ofNat p.proto.toNat] := rfl
  simp only [ByteArray.data_append, Array.toList_append, h]
theorem head_three (p : Pk) (m : Nat) : over (over (over [69, 0, 0, 0, 0, 0, 0, 0, 64, UInt8.ofNat p.proto.toNat, 0, 0, 0, 0, 0, 0, 0, 0, 0, 0] 2 (twoT (20 + (m : Int)).toNat).data.toList) 12 (fourT p.src.toNat).data.toList) 16 (fourT p.dst.toNat).data.toList = (headT p m 0).data.toList := by
  rw [head_list, four_list, four_list]
  generalize hx : (twoT (20 + (m : Int)).toNat).data.toList = x
  rw [two_list] at hx
  subst hx
  simp [over, two_list]
theorem head_four (p : Pk) (m : Nat) (c : Int) : over (headT p m 0).data.toList 10 (twoT c.toNat).data.toList = (headT p m c).data.toList := by
  rw [head_list, head_list, four_list, four_list, two_list, two_list, two_list]
  simp [over]
theorem head_len (p : Pk) (m : Nat) (c : Int) : (headT p m c).data.toList.length = 20 := headT_size p m c

set_option maxHeartbeats 4000000 in
theorem headOf_x (p : Pk) (m : Nat) (w : World) (hs1 : addrB p.src = true) (hs2 : addrB p.dst = true) (hp1 : 0 ≤ p.proto) (hp2 : p.proto ≤ 255) (hm : m ≤ 1000) :
    Calls Tryz.prog 42 #[.agg #[.int .i64 p.src, .int .i64 p.dst, .int .i64 p.proto, .int .i64 p.a, .int .i64 p.b, .int .i64 p.kind, .int .i64 p.flags, .int .i64 p.seq, .int .i64 p.ack, .string p.body], .int .i64 (20 + (m : Int))] w fun e w' => e = .returned (.agg (cells8 (headT p m (checkAns (headT p m 0))).data.toList).toArray) ∧ Below w.heap.size w w' := by
  have hwf : IntKind.u8.wrap p.proto = p.proto := IntWalk.u8_in _ (by omega)
  have hwn : wordB (20 + (m : Int)) = true := wordB_iff.2 ⟨by omega, by omega⟩
  have hwc := checkAns_word (s := headT p m 0)
  have HS0 := hidS (HS.start w p hp1 hp2)
  go_enter Tryz.func42, Tryz.ntmps42
  iterate 29 (first | go_values | go_skip | go_guarded | go_step | go_upon | go_back)
  refine wpList_store_mid rfl 63 _ _ rfl (w.heap.size + 1 + 1) 0 #[.int .u8 69, .int .u8 0, .int .u8 0, .int .u8 0, .int .u8 0, .int .u8 0, .int .u8 0, .int .u8 0, .int .u8 64, .int .u8 p.proto, .int .u8 0, .int .u8 0, .int .u8 0, .int .u8 0, .int .u8 0, .int .u8 0, .int .u8 0, .int .u8 0, .int .u8 0, .int .u8 0] rfl rfl (HS.there w _ _) (by kernel_rfl) (by first | kernel_rfl | simp [Value.oneCell']) ?_
  simp only [Act.put]
  generalize (((w.alloc (.cells #[.int .i64 p.src, .int .i64 p.dst, .int .i64 p.proto, .int .i64 p.a, .int .i64 p.b, .int .i64 p.kind, .int .i64 p.flags, .int .i64 p.seq, .int .i64 p.ack, .string p.body] 24)).alloc (.cells #[.int .u8 0, .int .u8 0, .int .u8 0, .int .u8 0, .int .u8 0, .int .u8 0, .int .u8 0, .int .u8 0, .int .u8 0, .int .u8 0, .int .u8 0, .int .u8 0, .int .u8 0, .int .u8 0, .int .u8 0, .int .u8 0, .int .u8 0, .int .u8 0, .int .u8 0, .int .u8 0] 63)).alloc (.cells #[.int .u8 0, .int .u8 0, .int .u8 0, .int .u8 0, .int .u8 0, .int .u8 0, .int .u8 0, .int .u8 0, .int .u8 0, .int .u8 0, .int .u8 0, .int .u8 0, .int .u8 0, .int .u8 0, .int .u8 0, .int .u8 0, .int .u8 0, .int .u8 0, .int .u8 0, .int .u8 0] 63)).setCells (w.heap.size + 1 + 1) 0 #[.int .u8 69, .int .u8 0, .int .u8 0, .int .u8 0, .int .u8 0, .int .u8 0, .int .u8 0, .int .u8 0, .int .u8 64, .int .u8 p.proto, .int .u8 0, .int .u8 0, .int .u8 0, .int .u8 0, .int .u8 0, .int .u8 0, .int .u8 0, .int .u8 0, .int .u8 0, .int .u8 0].toList = w1 at HS0 ⊢
  go_wp2_with fail
  refine grow_copy 3 _ [.is (.slice (some ⟨w.heap.size + 1 + 1, 2, none⟩) 18 18), .is (.int .i64 (20 + (m : Int))), .is (.string (twoT (20 + (m : Int)).toNat))] 0 2 10 12 (w.heap.size + 1 + 1) 2 18 18 (twoT (20 + (m : Int)).toNat) _ rfl rfl rfl (by kernel_rfl) (by kernel_rfl) (by kernel_rfl) rfl rfl rfl (by decide) (by decide) rfl rfl HS0.out.row (by rw [twoT_size]; omega) (by rw [twoT_size]; simp) ?steps10 ?fin10
  case steps10 =>
    refine ⟨?_, ?_, ?_, trivial⟩
    · refine ⟨rfl, fun v W ρ hC kc kf ks ki kd => ?_⟩
      have t5 : ρ (.tmp 5) = .pointer (some ⟨w.heap.size + 1 + 1, 0, none⟩) := ki 5 (by decide)
      simp [execOp, go_sem, t5, kc, kc]
      exact ⟨hC, Below.refl _ _, rfl⟩
    · refine ⟨rfl, fun v W ρ hC kc kf ks ki kd => ?_⟩
      have t1 : ρ (.tmp 1) = .int .i64 (20 + (m : Int)) := ki 1 (by decide)
      simp [execOp, go_sem, t1]
      exact ⟨hC, Below.refl _ _, rfl⟩
    · refine ⟨rfl, fun v W ρ hC kc kf ks ki kd => ?_⟩
      have d1 : v 1 = .int .i64 (20 + (m : Int)) := kd _ (Array.mem_of_getElem? (i := 0) rfl) rfl
      have t11 : ρ (.tmp 11) = v 1 := ks 1 11 (by decide) rfl
      rw [d1] at t11
      simp [execOp, go_sem, t11, kf]
      exact Calls.mono (implWord_x _ _ (by assumption)) (fun e x h => ⟨_, h.1, hC.trans (h.2.mono hC.size), h.2, rfl⟩)
  intro v W hbel hoth hrow' hall
  simp [upto, Act.put]
  clear hall
  have HS1 := hidS (HS0.out.next hbel hoth hrow')
  clear hbel hoth hrow' HS0
  go_wp2_with fail
  refine grow_copy 4 _ [.is (.slice (some ⟨w.heap.size + 1 + 1, 12, none⟩) 8 8), .is (.pointer (some ⟨w.heap.size, 0, none⟩)), .is (.int .i64 p.src), .is (.string (fourT p.src.toNat))] 0 3 14 17 (w.heap.size + 1 + 1) 12 8 8 (fourT p.src.toNat) _ rfl rfl rfl (by kernel_rfl) (by kernel_rfl) (by kernel_rfl) rfl rfl rfl (by decide) (by decide) rfl rfl HS1.out.row (by rw [fourT_size]; omega) (by rw [fourT_size]; simp [over, two_list]) ?steps14 ?fin14
  case steps14 =>
    refine ⟨?_, ?_, ?_, ?_, trivial⟩
    · refine ⟨rfl, fun v W ρ hC kc kf ks ki kd => ?_⟩
      have t5 : ρ (.tmp 5) = .pointer (some ⟨w.heap.size + 1 + 1, 0, none⟩) := ki 5 (by decide)
      simp [execOp, go_sem, t5, kc, kc]
      exact ⟨hC, Below.refl _ _, rfl⟩
    · refine ⟨rfl, fun v W ρ hC kc kf ks ki kd => ?_⟩
      have t2 : ρ (.tmp 2) = .pointer (some ⟨w.heap.size, 0, none⟩) := ki 2 (by decide)
      simp [execOp, go_sem, t2]
      exact ⟨hC, Below.refl _ _, rfl⟩
    · refine ⟨rfl, fun v W ρ hC kc kf ks ki kd => ?_⟩
      have d1 : v 1 = .pointer (some ⟨w.heap.size, 0, none⟩) := kd _ (Array.mem_of_getElem? (i := 0) rfl) rfl
      have t15 : ρ (.tmp 15) = v 1 := ks 1 15 (by decide) rfl
      rw [d1] at t15
      have hp := blk_later HS1.out.h0 hC
      have c0 := blk_cell hp 0
      have c1 := blk_cell hp 1
      simp at c0 c1
      simp [execOp, go_sem, t15, c0]
      exact ⟨hC, Below.refl _ _, rfl⟩
    · refine ⟨rfl, fun v W ρ hC kc kf ks ki kd => ?_⟩
      have d2 : v 2 = .int .i64 p.src := kd _ (Array.mem_of_getElem? (i := 0) rfl) rfl
      have t16 : ρ (.tmp 16) = v 2 := ks 2 16 (by decide) rfl
      rw [d2] at t16
      simp [execOp, go_sem, t16, kf]
      exact Calls.mono (longText_x _ _ (by assumption)) (fun e x h => ⟨_, h.1, hC.trans (h.2.mono hC.size), h.2, rfl⟩)
  intro v W hbel hoth hrow' hall
  simp [upto, Act.put]
  clear hall
  have HS2 := hidS (HS1.out.next hbel hoth hrow')
  clear hbel hoth hrow' HS1
  go_wp2_with fail
  refine grow_copy 4 _ [.is (.slice (some ⟨w.heap.size + 1 + 1, 16, none⟩) 4 4), .is (.pointer (some ⟨w.heap.size, 1, none⟩)), .is (.int .i64 p.dst), .is (.string (fourT p.dst.toNat))] 0 3 19 22 (w.heap.size + 1 + 1) 16 4 4 (fourT p.dst.toNat) _ rfl rfl rfl (by kernel_rfl) (by kernel_rfl) (by kernel_rfl) rfl rfl rfl (by decide) (by decide) rfl rfl HS2.out.row (by rw [fourT_size]; omega) (by rw [fourT_size]; simp [over, two_list, four_list]) ?steps19 ?fin19
  case steps19 =>
    refine ⟨?_, ?_, ?_, ?_, trivial⟩
    · refine ⟨rfl, fun v W ρ hC kc kf ks ki kd => ?_⟩
      have t5 : ρ (.tmp 5) = .pointer (some ⟨w.heap.size + 1 + 1, 0, none⟩) := ki 5 (by decide)
      simp [execOp, go_sem, t5, kc, kc]
      exact ⟨hC, Below.refl _ _, rfl⟩
    · refine ⟨rfl, fun v W ρ hC kc kf ks ki kd => ?_⟩
      have t2 : ρ (.tmp 2) = .pointer (some ⟨w.heap.size, 0, none⟩) := ki 2 (by decide)
      simp [execOp, go_sem, t2]
      exact ⟨hC, Below.refl _ _, rfl⟩
    · refine ⟨rfl, fun v W ρ hC kc kf ks ki kd => ?_⟩
      have d1 : v 1 = .pointer (some ⟨w.heap.size, 1, none⟩) := kd _ (Array.mem_of_getElem? (i := 0) rfl) rfl
      have t20 : ρ (.tmp 20) = v 1 := ks 1 20 (by decide) rfl
      rw [d1] at t20
      have hp := blk_later HS2.out.h0 hC
      have c0 := blk_cell hp 0
      have c1 := blk_cell hp 1
      simp at c0 c1
      simp [execOp, go_sem, t20, c1]
      exact ⟨hC, Below.refl _ _, rfl⟩
    · refine ⟨rfl, fun v W ρ hC kc kf ks ki kd => ?_⟩
      have d2 : v 2 = .int .i64 p.dst := kd _ (Array.mem_of_getElem? (i := 0) rfl) rfl
      have t21 : ρ (.tmp 21) = v 2 := ks 2 21 (by decide) rfl
      rw [d2] at t21
      simp [execOp, go_sem, t21, kf]
      exact Calls.mono (longText_x _ _ (by assumption)) (fun e x h => ⟨_, h.1, hC.trans (h.2.mono hC.size), h.2, rfl⟩)
  intro v W hbel hoth hrow' hall
  simp [upto, Act.put]
  clear hall
  have HS3 := hidS (HS2.out.next hbel hoth hrow')
  rw [head_three] at HS3
  clear hbel hoth hrow' HS2
  go_wp2_with fail
  refine grow_copy 5 _ [.is (.slice (some ⟨w.heap.size + 1 + 1, 10, none⟩) 10 10), .is (.slice (some ⟨w.heap.size + 1 + 1, 0, none⟩) 20 20), .is (.string (headT p m 0)), .is (.int .i64 (checkAns (headT p m 0))), .is (.string (twoT (checkAns (headT p m 0)).toNat))] 0 4 24 28 (w.heap.size + 1 + 1) 10 10 10 (twoT (checkAns (headT p m 0)).toNat) _ rfl rfl rfl (by kernel_rfl) (by kernel_rfl) (by kernel_rfl) rfl rfl rfl (by decide) (by decide) rfl rfl HS3.out.row (by rw [twoT_size]; omega) (by rw [twoT_size]; rw [head_len]; omega) ?steps24 ?fin24
  case steps24 =>
    refine ⟨?_, ?_, ?_, ?_, ?_, trivial⟩
    · refine ⟨rfl, fun v W ρ hC kc kf ks ki kd => ?_⟩
      have t5 : ρ (.tmp 5) = .pointer (some ⟨w.heap.size + 1 + 1, 0, none⟩) := ki 5 (by decide)
      simp [execOp, go_sem, t5, kc, kc]
      exact ⟨hC, Below.refl _ _, rfl⟩
    · refine ⟨rfl, fun v W ρ hC kc kf ks ki kd => ?_⟩
      have t5 : ρ (.tmp 5) = .pointer (some ⟨w.heap.size + 1 + 1, 0, none⟩) := ki 5 (by decide)
      simp [execOp, go_sem, t5, kc]
      exact ⟨hC, Below.refl _ _, rfl⟩
    · refine ⟨rfl, fun v W ρ hC kc kf ks ki kd => ?_⟩
      have d1 : v 1 = .slice (some ⟨w.heap.size + 1 + 1, 0, none⟩) 20 20 := kd _ (Array.mem_of_getElem? (i := 0) rfl) rfl
      have t25 : ρ (.tmp 25) = v 1 := ks 1 25 (by decide) rfl
      rw [d1] at t25
      have hcv := BytesAt.conv 20 (HS3.out.row.later hC).bytes
      rw [head_len] at hcv
      have eh : (⟨(headT p m 0).data.toList.toArray⟩ : ByteArray) = headT p m 0 := by simp
      rw [eh] at hcv
      simp [execOp, go_sem, t25, hcv]
      exact ⟨hC, Below.refl _ _, rfl⟩
    · refine ⟨rfl, fun v W ρ hC kc kf ks ki kd => ?_⟩
      have d2 : v 2 = .string (headT p m 0) := kd _ (Array.mem_of_getElem? (i := 0) rfl) rfl
      have t26 : ρ (.tmp 26) = v 2 := ks 2 26 (by decide) rfl
      rw [d2] at t26
      simp [execOp, go_sem, t26, kf]
      exact Calls.mono (implCheckOf_any _ _ (by unfold maxLen; have := headT_size p m 0; omega)) (fun e x h => ⟨_, h.1, hC.trans (h.2.mono hC.size), h.2, rfl⟩)
    · refine ⟨rfl, fun v W ρ hC kc kf ks ki kd => ?_⟩
      have d3 : v 3 = .int .i64 (checkAns (headT p m 0)) := kd _ (Array.mem_of_getElem? (i := 0) rfl) rfl
      have t27 : ρ (.tmp 27) = v 3 := ks 3 27 (by decide) rfl
      rw [d3] at t27
      simp [execOp, go_sem, t27, kf]
      exact Calls.mono (implWord_x _ _ (by assumption)) (fun e x h => ⟨_, h.1, hC.trans (h.2.mono hC.size), h.2, rfl⟩)
  intro v W hbel hoth hrow' hall
  simp [upto, Act.put]
  clear hall
  have HS4 := hidS (HS3.out.next hbel hoth hrow')
  rw [head_four] at HS4
  clear hbel hoth hrow' HS3
  iterate 4 (first | go_values | go_skip | go_guarded | go_step | go_upon | go_back)
  have hlen : (cells8 (headT p m (checkAns (headT p m 0))).data.toList).length = 20 := by rw [cells8, List.length_map]; exact head_len p m _
  have hsz : ((Tryz.prog).info? 63).map (·.size) = some (cells8 (headT p m (checkAns (headT p m 0))).data.toList).length := by rw [hlen]; kernel_rfl
  refine wpList_load_mid rfl 63 _ rfl (w.heap.size + 1 + 1) 0 rfl (cells8 (headT p m (checkAns (headT p m 0))).data.toList) _ HS4.out.row.range Tryz.underlying63 rfl hsz ?_
  have hth : ∀ k, k = 20 → W.there (w.heap.size + 1) 0 k := fun k hk j hj => by
    subst hk
    have h := HS4.out.h1
    exact ⟨by simp only [World.cell?, h]; simp [hj], by simp only [World.frozen?, h]; simp⟩
  refine wpList_store_mid rfl 63 _ _ rfl (w.heap.size + 1) 0 (cells8 (headT p m (checkAns (headT p m 0))).data.toList).toArray rfl rfl (hth _ (by simpa using hlen)) (by simpa using hsz) (all_oneCell_toArray (fun v hv => by simp only [cells8, List.mem_map] at hv; obtain ⟨b, _, rfl⟩ := hv; rfl)) ?_
  have hr := World.rangeAt_setCells_same W (w.heap.size + 1) 0 (cells8 (headT p m (checkAns (headT p m 0))).data.toList) (hth _ hlen)
  have hE := hidS (below_setCells (B := w.heap.size) (b := w.heap.size + 1) (by omega) (cells8 (headT p m (checkAns (headT p m 0))).data.toList) 0 W HS4.out.bel)
  have hld := run_loadVar_mid (P := Tryz.prog) _ (w.heap.size + 1) 0 63 _ _ hr Tryz.underlying63 rfl hsz
  simp only [Act.put]
  clear hth HS4 hr hsz hlen
  generalize hL : cells8 (headT p m (checkAns (headT p m 0))).data.toList = L at hE hld ⊢
  have HL := hidS hL
  clear hL
  generalize W.setCells (w.heap.size + 1) 0 L = W5 at hE hld ⊢
  go_wp2_with fail
  exact bodyPost_ret (v := .agg L.toArray) (by simp [results, Tryz.results42, asAddr, hld]) rfl ⟨by rw [HL.out], hE.out⟩
end Go.Proofs.YtedknnkdnccfmaaGreatDoor
