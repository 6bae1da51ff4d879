/- Proved here: impl.PacketRight answers whether a packet is right; all old memory stays (condition: the body is a string). -/
import Derived.Test.YtbhemimhmkgfiaaDoorMeths
import Derived.Test.YtbhemimhmkgfiaaDoorAll5
namespace Go.Proofs.YtbhemimhmkgfiaaDoor
open Go.ChangeShapes Go.WideShapes Go.ChangeAt Go.RowKit
open Go.ChangeMaps (open_string shut_string)
set_option linter.unusedVariables false

theorem ret_bool {a b : Bool} (h : b = a) : Ending.returned (.bool a) = .returned (.bool b) := by rw [h]

set_option maxRecDepth 100000 in
set_option maxHeartbeats 2000000 in
theorem implRight_gen (p : Pk) (qa qb qk qf qs qc : Int) (T : TypeId) (val : Value) (fr ff : FuncId) (b : Bool) (w : World) (hs : p.body.size ≤ maxLen)
    (hPT : ∀ W, Calls Tryd.prog 66 #[.agg #[.int .i64 p.src, .int .i64 p.dst, .int .i64 p.proto, .int .i64 p.a, .int .i64 p.b, .int .i64 p.kind, .int .i64 p.flags, .int .i64 p.seq, .int .i64 p.ack, .string p.body]] W fun e w' => e = .returned (.iface T val) ∧ Below W.heap.size W w')
    (hm1 : ∀ W, (method 273 T val "loop.example/g00542/impl.right").run Tryd.prog W = .ok (fr, val) W)
    (hm2 : ∀ W, (method 273 T val "loop.example/g00542/impl.fields").run Tryd.prog W = .ok (ff, val) W)
    (hc1 : ∀ W, (callFunc fr #[val]).run Tryd.prog W = .ok (.enter fr #[val]) W)
    (hc2 : ∀ W, (callFunc ff #[val]).run Tryd.prog W = .ok (.enter ff #[val]) W)
    (hR : ∀ W, Calls Tryd.prog fr #[val] W fun e w' => e = .returned (.bool b) ∧ Below W.heap.size W w')
    (hF : ∀ W, Calls Tryd.prog ff #[val] W fun e w' => e = .returned (.agg #[.int .i64 0, .int .i64 0, .int .i64 p.proto, .int .i64 qa, .int .i64 qb, .int .i64 qk, .int .i64 qf, .int .i64 qs, .int .i64 qc, .string p.body]) ∧ Below W.heap.size W w')
    (hno : allA [p.src, p.dst] = false ∨ 100 < p.body.size ∨ b = false → rightB p = false)
    (hyes : allA [p.src, p.dst] = true → p.body.size ≤ 100 → b = true → rightB p = decide (qa = p.a ∧ qb = p.b ∧ qk = p.kind ∧ qf = p.flags ∧ qs = p.seq ∧ qc = p.ack)) :
    Calls Tryd.prog 55 #[.agg #[.int .i64 p.src, .int .i64 p.dst, .int .i64 p.proto, .int .i64 p.a, .int .i64 p.b, .int .i64 p.kind, .int .i64 p.flags, .int .i64 p.seq, .int .i64 p.ack, .string p.body]] w fun e w' => e = .returned (.bool (rightB p)) ∧ Below w.heap.size w w' := by
  have hs' : p.body.size ≤ 2 ^ 63 - 1 := hs
  have hB1 := hidS ((Below.refl w.heap.size w).alloc (Nat.le_refl _) (.cells #[.int .i64 p.src, .int .i64 p.dst, .int .i64 p.proto, .int .i64 p.a, .int .i64 p.b, .int .i64 p.kind, .int .i64 p.flags, .int .i64 p.seq, .int .i64 p.ack, .string p.body] 29))
  have HP := hidS (heap_newG w (.cells #[.int .i64 p.src, .int .i64 p.dst, .int .i64 p.proto, .int .i64 p.a, .int .i64 p.b, .int .i64 p.kind, .int .i64 p.flags, .int .i64 p.seq, .int .i64 p.ack, .string p.body] 29))
  have HPT := hidS hPT
  have HM1 := hidS hm1
  have HM2 := hidS hm2
  have HR := hidS hR
  have HF := hidS hF
  have HC1 := hidS hc1
  have HC2 := hidS hc2
  have HN := hidS hno
  have HY := hidS hyes
  clear hPT hm1 hm2 hR hF hc1 hc2 hno hyes
  cases h1 : allA [p.src, p.dst]
  · have e0 : Hid (rightB p = false) := HN.out (.inl h1)
    go_enter Tryd.func55, Tryd.ntmps55
    go_wp2_with fail
    refine (HPT.out _).mono ?_
    rintro e w2 ⟨rfl, hb2⟩
    have hG := blk_later HP.out hb2
    have hL := hidS (hB1.out.trans (hb2.mono hB1.out.size))
    clear hB1 HP hb2 HPT
    have c0 := blk_cell hG 0
    have c1 := blk_cell hG 1
    simp at c0 c1
    go_wp2_with fail
    refine (areAddrs_any w2.heap.size [p.src, p.dst] _ (two_cells _ _ _ _) (by simp)).mono ?_
    rintro e w3 ⟨rfl, rfl⟩
    rw [h1]
    have hL3 := hidS (hL.out.alloc hL.out.size (.cells #[.int .i64 p.src, .int .i64 p.dst] 2))
    generalize w2.alloc (.cells #[.int .i64 p.src, .int .i64 p.dst] 2) = w3 at hL3 ⊢
    go_wp2_with fail
    go_ret
    exact ⟨ret_bool e0.out, hL3.out⟩
  by_cases h2 : 100 < p.body.size
  · have e0 : Hid (rightB p = false) := HN.out (.inr (.inl h2))
    go_enter Tryd.func55, Tryd.ntmps55
    go_wp2_with fail
    refine (HPT.out _).mono ?_
    rintro e w2 ⟨rfl, hb2⟩
    have hG := blk_later HP.out hb2
    have hL := hidS (hB1.out.trans (hb2.mono hB1.out.size))
    clear hB1 HP hb2 HPT
    have c0 := blk_cell hG 0
    have c1 := blk_cell hG 1
    simp at c0 c1
    go_wp2_with fail
    refine (areAddrs_any w2.heap.size [p.src, p.dst] _ (two_cells _ _ _ _) (by simp)).mono ?_
    rintro e w3 ⟨rfl, rfl⟩
    rw [h1]
    have hG3 := blk_alloc hG (.cells #[.int .i64 p.src, .int .i64 p.dst] 2)
    have hL3 := hidS (hL.out.alloc hL.out.size (.cells #[.int .i64 p.src, .int .i64 p.dst] 2))
    generalize w2.alloc (.cells #[.int .i64 p.src, .int .i64 p.dst] 2) = w3 at hG3 hL3 ⊢
    clear hG hL c0 c1
    have c9 := blk_cell hG3 9
    simp at c9
    go_wp2_with fail
    go_ret
    exact ⟨ret_bool e0.out, hL3.out⟩
  have h2' : decide ((100 : Int) < (p.body.size : Int)) = false := by simp; omega
  go_enter Tryd.func55, Tryd.ntmps55
  go_wp2_with fail
  refine (HPT.out _).mono ?_
  rintro e w2 ⟨rfl, hb2⟩
  have hG := blk_later HP.out hb2
  have hL := hidS (hB1.out.trans (hb2.mono hB1.out.size))
  clear hB1 HP hb2 HPT
  have c0 := blk_cell hG 0
  have c1 := blk_cell hG 1
  simp at c0 c1
  go_wp2_with fail
  refine (areAddrs_any w2.heap.size [p.src, p.dst] _ (two_cells _ _ _ _) (by simp)).mono ?_
  rintro e w3 ⟨rfl, rfl⟩
  rw [h1]
  have hG3 := blk_alloc hG (.cells #[.int .i64 p.src, .int .i64 p.dst] 2)
  have hL3 := hidS (hL.out.alloc hL.out.size (.cells #[.int .i64 p.src, .int .i64 p.dst] 2))
  generalize w2.alloc (.cells #[.int .i64 p.src, .int .i64 p.dst] 2) = w3 at hG3 hL3 ⊢
  clear hG hL c0 c1
  have c9 := blk_cell hG3 9
  simp at c9
  go_wp2_with fail
  rw [HM1.out]
  go_wp2_with fail
  rw [HC1.out, Oper.upon_enter]
  refine (HR.out _).mono ?_
  rintro e w4 ⟨rfl, hb4⟩
  cases b
  · have e0 : Hid (rightB p = false) := HN.out (.inr (.inr rfl))
    have hL4 := hidS (hL3.out.trans (hb4.mono hL3.out.size))
    clear hG3 hL3 hb4 c9
    go_wp2_with fail
    go_ret
    exact ⟨ret_bool e0.out, hL4.out⟩
  have hG4 := blk_later hG3 hb4
  have hL4 := hidS (hL3.out.trans (hb4.mono hL3.out.size))
  clear hG3 hL3 hb4 c9
  go_wp2_with fail
  rw [HM2.out]
  go_wp2_with fail
  rw [HC2.out, Oper.upon_enter]
  refine (HF.out _).mono ?_
  rintro e w5 ⟨rfl, hb5⟩
  have hG5 := blk_later hG4 hb5
  have hL5 := hidS (hL4.out.trans (hb5.mono hL4.out.size))
  clear hG4 hL4 hb5 HM1 HM2 HF HC1 HC2 HR
  have hlt := blk_lt hG5
  have hL6 := fun o => hidS (hL5.out.alloc hL5.out.size o).drew
  clear hL5
  have c0 := blk_cell hG5 0
  have c1 := blk_cell hG5 1
  simp at c0 c1
  go_wp2_with fail
  go_region
  have c2 := blk_cell hG5 2
  have c3 := blk_cell hG5 3
  have c4 := blk_cell hG5 4
  have c5 := blk_cell hG5 5
  have c6 := blk_cell hG5 6
  have c7 := blk_cell hG5 7
  have c8 := blk_cell hG5 8
  have c9 := blk_cell hG5 9
  simp at c2 c3 c4 c5 c6 c7 c8 c9
  have HE := hidS (HY.out h1 (by omega) (by simp))
  clear hG5 HY HN
  go_wp2_with fail
  all_goals
    go_ret
    refine ⟨ret_bool ?_, (hL6 _).out⟩
    rw [HE.out]
    first
      | exact decide_eq_true ⟨by assumption, by assumption, by assumption, by assumption, by assumption, by assumption⟩
      | exact decide_eq_false (by rintro ⟨g1, g2, g3, g4, g5, g6⟩; contradiction)
end Go.Proofs.YtbhemimhmkgfiaaDoor
