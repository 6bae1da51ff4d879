/- Proved here: the law on regions that draw their order, where the last operation copies a string into a row of bytes that is known (no program of its own but its types). · Proved here: impl.headOf answers the twenty bytes of a packet's head; all old memory stays (conditions: its addresses and its protocol's byte are within their bounds, at most 1000 bytes behind it). · Proved here: impl.withWord answers a text with a word at those of the places that lie in it; all old memory stays (conditions: a word, the places lie in a list, nothing is too great). · Proved here: impl.checkAt answers the place of a part's check (of each kind of part, and of none); nothing changes (no conditions). · Proved here: impl.checkWithEnds and impl.checkOfPart answer the check of what stands behind a head; all old memory stays (conditions: the packet's ends and its protocol's byte are within their bounds, at most 1000 bytes). · Proved here: impl.PacketBytes answers the bytes of a right packet, joined of its head and its part, its part's check laid in; all old memory stays (conditions: the packet is right; what its part's functions answer is told). -/
import Derived.Test.YthfhbmiddillbagDoorAll2
import Derived.Test.YthfhbmiddillbagDoorAll1
import Derived.Laws.AppendOwn
section
namespace Go.Proofs.YthfhbmiddillbagDoor
open Go.ChangeShapes Go.WideShapes Go.ChangeAt Go.RowKit
set_option linter.unusedVariables false


/-- 'copy(row[o:], s)', as much of s as the row has room for -/
theorem Row8.copyc {g : Nat} {l : List UInt8} {W : World} (h : Row8 g l W) (ty : TypeId) (o dLen dCap : Nat) (s : ByteArray) (hfit : o + dLen = l.length) :
    ∃ W', (Builtin.copy_ #[72, 9] ty #[.slice (some ⟨g, o, none⟩) dLen dCap, .string s]).run Tryd.prog W = .ok (.int .i64 (Nat.min s.size dLen : Int)) W' ∧ Row8 g (over l o (s.data.toList.take dLen)) W' ∧
      (∀ B a, B ≤ g → Below B a W → Below B a W') ∧ (∀ b, b < W.heap.size → b ≠ g → W'.heap[b]? = W.heap[b]?) := by
  have hsl : s.data.toList.length = s.size := by simp
  by_cases hle : s.size ≤ dLen
  · have := h.copy ty o dLen dCap s hle (by omega)
    rw [List.take_of_length_le (by rw [hsl]; exact hle), show Nat.min s.size dLen = s.size from Nat.min_eq_left hle]
    exact this
  · have hmin : Nat.min s.size dLen = dLen := Nat.min_eq_right (by omega)
    have hel : (s.data.toList.take dLen).length = dLen := by rw [List.length_take, hsl]; omega
    obtain ⟨W', h1, h2, h3, h4⟩ := h.copy ty o dLen dCap ⟨(s.data.toList.take dLen).toArray⟩ (by show (s.data.toList.take dLen).toArray.size ≤ dLen; simp; omega) (by show o + (s.data.toList.take dLen).toArray.size ≤ l.length; simp; omega)
    have hsz : (⟨(s.data.toList.take dLen).toArray⟩ : ByteArray).size = dLen := by show (s.data.toList.take dLen).toArray.size = dLen; simpa using hel
    refine ⟨W', ?_, by simpa using h2, h3, h4⟩
    rw [hmin]
    rw [hsz] at h1
    rw [← h1]
    simp [Builtin.copy_, run_underlying Tryd.underlying72, Builtin.lenOf, Builtin.firstCells, hmin, hsz, List.map_take, List.take_take]

section
variable {ops : Array Oper} {a0 : Act} {Q : Exit → Act → World → Prop}
theorem grow_copy {id : Nat} {w0 : World} (m : Nat) (last : Oper) (ks : List Kd) (jx jy : Nat) (dx dy : Tmp) (g off dLen dCap : Nat) (s : ByteArray) (l : List UInt8)
    (hsz : ops.size = m + 1) (hl : ops[m]? = some last) (hlg : last.guard = none) (hlB : lastB ops m = true) (hm : (Tryd.prog).follows .mixedOrders = true) (hT : tidyB ops a0.tmps.size = true)
    (ho : last.op = Op.call { callee := Callee.builtin Builtin.copy, args := #[.tmp dx, .tmp dy], argTypes := #[72, 9] }) (hx : (ops[jx]?).bind (·.dst) = some dx) (hy : (ops[jy]?).bind (·.dst) = some dy) (hjx : jx < m) (hjy : jy < m)
    (hkx : ks.getD jx .any = .is (.slice (some ⟨g, off, none⟩) dLen dCap)) (hky : ks.getD jy .any = .is (.string s)) (hrow : Row8 g l w0) (hle : s.size ≤ dLen) (hfit : off + s.size ≤ l.length)
    (hstep : StepsFrom (StepU Tryd.prog ops (fun W => Below w0.heap.size w0 W) (fun w w' => Below w.heap.size w w') (kdOf ks) a0) 0 (ops.toList.take m))
    (hend : ∀ (v : Nat → Value) (W : World), (∀ B, B ≤ g → Below B w0 W) → (∀ b, b < w0.heap.size → b ≠ g → W.heap[b]? = w0.heap[b]?) → Row8 g (over l off s.data.toList) W → (∀ i x, i < m → ks.getD i .any = .is x → v i = x) → Q .normal ((upto ops v a0 m).put last.dst (.int .i64 (s.size : Int))) W) :
    (Code.region id ops true).wp Tryd.prog Q a0 w0 := by
  refine grow_store m last ks hsz hl hlg hlB hm hT hstep (fun v w hC hall => ?_)
  have T := tidy_of hT
  have hU := InF.upto (v := v) T m (by omega)
  have hxk := hall jx hjx
  have hyk := hall jy hjy
  unfold kdOf at hxk hyk
  rw [hkx] at hxk
  rw [hky] at hyk
  have e1 : v jx = .slice (some ⟨g, off, none⟩) dLen dCap := hxk
  have e2 : v jy = .string s := hyk
  have ev : ∀ j d, j < m → (ops[j]?).bind (·.dst) = some d → (upto ops v a0 m).eval (.tmp d) = v j := fun j d hj hjd => by
    obtain ⟨oj, hoj, hdj⟩ := Option.bind_eq_some_iff.1 hjd
    simp only [Act.eval, Array.getD_eq_getD_getElem?, hU.done j oj d hoj hdj hj, Option.getD_some]
  obtain ⟨W', hrun, hrow', hbel, hoth⟩ := (hrow.later hC).copy last.type off dLen dCap s hle hfit
  have ex := (ev jx dx hjx hx).trans e1
  have ey := (ev jy dy hjy hy).trans e2
  unfold Oper.wp
  simp [execOp, ho, resolve, invoke, builtin, ex, ey, hrun, Result.andThen]
  refine hend v W' (fun B hB => hbel B w0 hB (hC.mono (by have := hrow.1; omega))) (fun b hb hne => (hoth b (Nat.lt_of_lt_of_le hb hC.size) hne).trans (hC.block b hb)) hrow' (fun i x hi hk => ?_)
  have := hall i hi
  unfold kdOf at this
  rw [hk] at this
  exact this
theorem grow_copyc {id : Nat} {w0 : World} (m : Nat) (last : Oper) (ks : List Kd) (jx jy : Nat) (dx dy : Tmp) (g off dLen dCap : Nat) (s : ByteArray) (l : List UInt8)
    (hsz : ops.size = m + 1) (hl : ops[m]? = some last) (hlg : last.guard = none) (hlB : lastB ops m = true) (hm : (Tryd.prog).follows .mixedOrders = true) (hT : tidyB ops a0.tmps.size = true)
    (ho : last.op = Op.call { callee := Callee.builtin Builtin.copy, args := #[.tmp dx, .tmp dy], argTypes := #[72, 9] }) (hx : (ops[jx]?).bind (·.dst) = some dx) (hy : (ops[jy]?).bind (·.dst) = some dy) (hjx : jx < m) (hjy : jy < m)
    (hkx : ks.getD jx .any = .is (.slice (some ⟨g, off, none⟩) dLen dCap)) (hky : ks.getD jy .any = .is (.string s)) (hrow : Row8 g l w0) (hfit : off + dLen = l.length)
    (hstep : StepsFrom (StepU Tryd.prog ops (fun W => Below w0.heap.size w0 W) (fun w w' => Below w.heap.size w w') (kdOf ks) a0) 0 (ops.toList.take m))
    (hend : ∀ (v : Nat → Value) (W : World), (∀ B, B ≤ g → Below B w0 W) → (∀ b, b < w0.heap.size → b ≠ g → W.heap[b]? = w0.heap[b]?) → Row8 g (over l off (s.data.toList.take dLen)) W → (∀ i x, i < m → ks.getD i .any = .is x → v i = x) → Q .normal ((upto ops v a0 m).put last.dst (.int .i64 (Nat.min s.size dLen : Int))) W) :
    (Code.region id ops true).wp Tryd.prog Q a0 w0 := by
  refine grow_store m last ks hsz hl hlg hlB hm hT hstep (fun v w hC hall => ?_)
  have T := tidy_of hT
  have hU := InF.upto (v := v) T m (by omega)
  have hxk := hall jx hjx
  have hyk := hall jy hjy
  unfold kdOf at hxk hyk
  rw [hkx] at hxk
  rw [hky] at hyk
  have e1 : v jx = .slice (some ⟨g, off, none⟩) dLen dCap := hxk
  have e2 : v jy = .string s := hyk
  have ev : ∀ j d, j < m → (ops[j]?).bind (·.dst) = some d → (upto ops v a0 m).eval (.tmp d) = v j := fun j d hj hjd => by
    obtain ⟨oj, hoj, hdj⟩ := Option.bind_eq_some_iff.1 hjd
    simp only [Act.eval, Array.getD_eq_getD_getElem?, hU.done j oj d hoj hdj hj, Option.getD_some]
  obtain ⟨W', hrun, hrow', hbel, hoth⟩ := (hrow.later hC).copyc last.type off dLen dCap s hfit
  have ex := (ev jx dx hjx hx).trans e1
  have ey := (ev jy dy hjy hy).trans e2
  unfold Oper.wp
  simp [execOp, ho, resolve, invoke, builtin, ex, ey, hrun, Result.andThen]
  refine hend v W' (fun B hB => hbel B w0 hB (hC.mono (by have := hrow.1; omega))) (fun b hb hne => (hoth b (Nat.lt_of_lt_of_le hb hC.size) hne).trans (hC.block b hb)) hrow' (fun i x hi hk => ?_)
  have := hall i hi
  unfold kdOf at this
  rw [hk] at this
  exact this
end
end Go.Proofs.YthfhbmiddillbagDoor
end

section
namespace Go.Proofs.YthfhbmiddillbagDoor
open Go.ChangeShapes Go.WideShapes Go.ChangeAt Go.RowKit
open Go.ChangeMaps (open_string shut_string)
set_option linter.unusedVariables false
set_option maxRecDepth 100000
set_option linter.unusedSimpArgs false

/-- the state of headOf: the packet's block, the result's, and the array's bytes -/
structure HS (w : World) (p : Pk) (l : List UInt8) (W : World) : Prop where
  bel : Below w.heap.size w W
  h0 : W.heap[w.heap.size]? = some (.cells #[.int .i64 p.src, .int .i64 p.dst, .int .i64 p.proto, .int .i64 p.a, .int .i64 p.b, .int .i64 p.kind, .int .i64 p.flags, .int .i64 p.seq, .int .i64 p.ack, .string p.body] 30)
  h1 : W.heap[w.heap.size + 1]? = some (.cells #[.int .u8 0, .int .u8 0, .int .u8 0, .int .u8 0, .int .u8 0, .int .u8 0, .int .u8 0, .int .u8 0, .int .u8 0, .int .u8 0, .int .u8 0, .int .u8 0, .int .u8 0, .int .u8 0, .int .u8 0, .int .u8 0, .int .u8 0, .int .u8 0, .int .u8 0, .int .u8 0] 99)
  row : Row8 (w.heap.size + 1 + 1) l W
theorem HS.next {w : World} {p : Pk} {l l' : List UInt8} {W W' : World} (h : HS w p l W) (hbel : ∀ B, B ≤ (w.heap.size + 1 + 1) → Below B W W') (hoth : ∀ b, b < W.heap.size → b ≠ (w.heap.size + 1 + 1) → W'.heap[b]? = W.heap[b]?) (hrow : Row8 (w.heap.size + 1 + 1) l' W') : HS w p l' W' :=
  ⟨h.bel.trans (hbel w.heap.size (by omega)), (hoth _ (blk_lt h.h0) (by omega)).trans h.h0, (hoth _ (blk_lt h.h1) (by omega)).trans h.h1, hrow⟩
/-- bytes as cells -/
def cells8 (l : List UInt8) : List Value := l.map fun b => Value.int .u8 (b.toNat : Int)
theorem u8_of {z : Int} (h0 : 0 ≤ z) (h1 : z ≤ 255) : ((UInt8.ofNat z.toNat).toNat : Int) = z := by
  have : (UInt8.ofNat z.toNat).toNat = z.toNat % 256 := by simp
  rw [this]; omega
theorem there_new (w : World) (o o1 : Obj) (cs : Array Value) (t : TypeId) : (((w.alloc o).alloc o1).alloc (.cells cs t)).there (w.heap.size + 1 + 1) 0 cs.size := fun j hj => by
  have h : (((w.alloc o).alloc o1).alloc (.cells cs t)).heap[(w.heap.size + 1 + 1)]? = some (.cells cs t) := by
    have := heap_newG ((w.alloc o).alloc o1) (.cells cs t)
    simpa using this
  exact ⟨by simp only [World.cell?, h]; simp [hj], by simp only [World.frozen?, h]; simp⟩
theorem HS.there (w : World) (o o1 : Obj) : (((w.alloc o).alloc o1).alloc (.cells #[.int .u8 0, .int .u8 0, .int .u8 0, .int .u8 0, .int .u8 0, .int .u8 0, .int .u8 0, .int .u8 0, .int .u8 0, .int .u8 0, .int .u8 0, .int .u8 0, .int .u8 0, .int .u8 0, .int .u8 0, .int .u8 0, .int .u8 0, .int .u8 0, .int .u8 0, .int .u8 0] 99)).there (w.heap.size + 1 + 1) 0 20 := there_new w o o1 _ _
theorem row8_set {W : World} {g : Nat} {l : List UInt8} (ht : W.there g 0 l.length) (hg : g < W.heap.size) : Row8 g l (W.setCells g 0 (cells8 l)) := by
  have hl : (cells8 l).length = l.length := by simp [cells8]
  refine ⟨Nat.lt_of_lt_of_le hg (below_setCells (B := g) (Nat.le_refl g) _ _ _ (Below.refl g W)).size, fun j hj => ⟨?_, ?_⟩⟩
  · have := World.cell?_setCells_in g (cells8 l) 0 W (fun i hi => (ht i (by rw [← hl]; exact hi)).1) j (by rw [hl]; exact hj)
    rw [Nat.zero_add] at this
    rw [this]; simp [cells8]
  · rw [World.frozen?_setCells]; have := (ht j hj).2; rwa [Nat.zero_add] at this
theorem HS.start (w : World) (p : Pk) (hp1 : 0 ≤ p.proto) (hp2 : p.proto ≤ 255) :
    HS w p [69, 0, 0, 0, 0, 0, 0, 0, 64, UInt8.ofNat p.proto.toNat, 0, 0, 0, 0, 0, 0, 0, 0, 0, 0] ((((w.alloc (.cells #[.int .i64 p.src, .int .i64 p.dst, .int .i64 p.proto, .int .i64 p.a, .int .i64 p.b, .int .i64 p.kind, .int .i64 p.flags, .int .i64 p.seq, .int .i64 p.ack, .string p.body] 30)).alloc (.cells #[.int .u8 0, .int .u8 0, .int .u8 0, .int .u8 0, .int .u8 0, .int .u8 0, .int .u8 0, .int .u8 0, .int .u8 0, .int .u8 0, .int .u8 0, .int .u8 0, .int .u8 0, .int .u8 0, .int .u8 0, .int .u8 0, .int .u8 0, .int .u8 0, .int .u8 0, .int .u8 0] 99)).alloc (.cells #[.int .u8 0, .int .u8 0, .int .u8 0, .int .u8 0, .int .u8 0, .int .u8 0, .int .u8 0, .int .u8 0, .int .u8 0, .int .u8 0, .int .u8 0, .int .u8 0, .int .u8 0, .int .u8 0, .int .u8 0, .int .u8 0, .int .u8 0, .int .u8 0, .int .u8 0, .int .u8 0] 99)).setCells (w.heap.size + 1 + 1) 0 #[.int .u8 69, .int .u8 0, .int .u8 0, .int .u8 0, .int .u8 0, .int .u8 0, .int .u8 0, .int .u8 0, .int .u8 64, .int .u8 p.proto, .int .u8 0, .int .u8 0, .int .u8 0, .int .u8 0, .int .u8 0, .int .u8 0, .int .u8 0, .int .u8 0, .int .u8 0, .int .u8 0].toList) := by
  have e : #[.int .u8 69, .int .u8 0, .int .u8 0, .int .u8 0, .int .u8 0, .int .u8 0, .int .u8 0, .int .u8 0, .int .u8 64, .int .u8 p.proto, .int .u8 0, .int .u8 0, .int .u8 0, .int .u8 0, .int .u8 0, .int .u8 0, .int .u8 0, .int .u8 0, .int .u8 0, .int .u8 0].toList = cells8 [69, 0, 0, 0, 0, 0, 0, 0, 64, UInt8.ofNat p.proto.toNat, 0, 0, 0, 0, 0, 0, 0, 0, 0, 0] := by
    simp only [cells8, List.map_cons, List.map_nil, u8_of hp1 hp2]; rfl
  rw [e]
  have hsz : (((w.alloc (.cells #[.int .i64 p.src, .int .i64 p.dst, .int .i64 p.proto, .int .i64 p.a, .int .i64 p.b, .int .i64 p.kind, .int .i64 p.flags, .int .i64 p.seq, .int .i64 p.ack, .string p.body] 30)).alloc (.cells #[.int .u8 0, .int .u8 0, .int .u8 0, .int .u8 0, .int .u8 0, .int .u8 0, .int .u8 0, .int .u8 0, .int .u8 0, .int .u8 0, .int .u8 0, .int .u8 0, .int .u8 0, .int .u8 0, .int .u8 0, .int .u8 0, .int .u8 0, .int .u8 0, .int .u8 0, .int .u8 0] 99)).alloc (.cells #[.int .u8 0, .int .u8 0, .int .u8 0, .int .u8 0, .int .u8 0, .int .u8 0, .int .u8 0, .int .u8 0, .int .u8 0, .int .u8 0, .int .u8 0, .int .u8 0, .int .u8 0, .int .u8 0, .int .u8 0, .int .u8 0, .int .u8 0, .int .u8 0, .int .u8 0, .int .u8 0] 99)).heap.size = w.heap.size + 3 := by simp
  refine ⟨below_setCells (by omega) _ _ _ ((((Below.refl w.heap.size w).alloc (Nat.le_refl _) _).alloc (by simp) _).alloc (by simp; omega) _), ?_, ?_, row8_set (HS.there w _ _) (by omega)⟩
  · rw [World.heap_setCells_other _ _ _ _ (by omega) (by omega)]
    have := blk_alloc (blk_alloc (heap_newG w (.cells #[.int .i64 p.src, .int .i64 p.dst, .int .i64 p.proto, .int .i64 p.a, .int .i64 p.b, .int .i64 p.kind, .int .i64 p.flags, .int .i64 p.seq, .int .i64 p.ack, .string p.body] 30)) (.cells #[.int .u8 0, .int .u8 0, .int .u8 0, .int .u8 0, .int .u8 0, .int .u8 0, .int .u8 0, .int .u8 0, .int .u8 0, .int .u8 0, .int .u8 0, .int .u8 0, .int .u8 0, .int .u8 0, .int .u8 0, .int .u8 0, .int .u8 0, .int .u8 0, .int .u8 0, .int .u8 0] 99)) (.cells #[.int .u8 0, .int .u8 0, .int .u8 0, .int .u8 0, .int .u8 0, .int .u8 0, .int .u8 0, .int .u8 0, .int .u8 0, .int .u8 0, .int .u8 0, .int .u8 0, .int .u8 0, .int .u8 0, .int .u8 0, .int .u8 0, .int .u8 0, .int .u8 0, .int .u8 0, .int .u8 0] 99)
    simpa using this
  · rw [World.heap_setCells_other _ _ _ _ (by omega) (by omega)]
    have := blk_alloc (heap_newG (w.alloc (.cells #[.int .i64 p.src, .int .i64 p.dst, .int .i64 p.proto, .int .i64 p.a, .int .i64 p.b, .int .i64 p.kind, .int .i64 p.flags, .int .i64 p.seq, .int .i64 p.ack, .string p.body] 30)) (.cells #[.int .u8 0, .int .u8 0, .int .u8 0, .int .u8 0, .int .u8 0, .int .u8 0, .int .u8 0, .int .u8 0, .int .u8 0, .int .u8 0, .int .u8 0, .int .u8 0, .int .u8 0, .int .u8 0, .int .u8 0, .int .u8 0, .int .u8 0, .int .u8 0, .int .u8 0, .int .u8 0] 99)) (.cells #[.int .u8 0, .int .u8 0, .int .u8 0, .int .u8 0, .int .u8 0, .int .u8 0, .int .u8 0, .int .u8 0, .int .u8 0, .int .u8 0, .int .u8 0, .int .u8 0, .int .u8 0, .int .u8 0, .int .u8 0, .int .u8 0, .int .u8 0, .int .u8 0, .int .u8 0, .int .u8 0] 99)
    simpa using this
theorem Row8.range {W : World} {g : Nat} {l : List UInt8} (h : Row8 g l W) : W.rangeAt g 0 (cells8 l) := fun j v hv => by
  obtain ⟨hj, rfl⟩ := List.getElem?_eq_some_iff.1 hv
  have hj' : j < l.length := by simpa [cells8] using hj
  rw [Nat.zero_add, (h.2 j hj').1]; simp [cells8]
/-- the head's bytes, step by step -/
theorem two_list (n : Nat) : (twoT n).data.toList = [UInt8.ofNat (n / 256), UInt8.ofNat (n % 256)] := rfl
theorem four_list (n : Nat) : (fourT n).data.toList = [UInt8.ofNat (n / 65536 / 256), UInt8.ofNat (n / 65536 % 256), UInt8.ofNat (n % 65536 / 256), UInt8.ofNat (n % 65536 % 256)] := by
  unfold fourT; simp [two_list]
theorem head_list (p : Pk) (m : Nat) (c : Int) : (headT p m c).data.toList = [69, 0] ++ (twoT (20 + (m : Int)).toNat).data.toList ++ [0, 0, 0, 0, 64, UInt8.ofNat p.proto.toNat] ++ (twoT c.toNat).data.toList ++ (fourT p.src.toNat).data.toList ++ (fourT p.dst.toNat).data.toList := by
  unfold headT
  have h : (rowT [0, 0, 0, 0, 64, p.proto]).data.toList = [0, 0, 0, 0, 64, UInt8.ofNat p.proto.toNat] := rfl
  simp only [ByteArray.data_append, Array.toList_append, h]
theorem head_three (p : Pk) (m : Nat) : over (over (over [69, 0, 0, 0, 0, 0, 0, 0, 64, UInt8.ofNat p.proto.toNat, 0, 0, 0, 0, 0, 0, 0, 0, 0, 0] 2 (twoT (20 + (m : Int)).toNat).data.toList) 12 (fourT p.src.toNat).data.toList) 16 (fourT p.dst.toNat).data.toList = (headT p m 0).data.toList := by
  rw [head_list, four_list, four_list]
  generalize hx : (twoT (20 + (m : Int)).toNat).data.toList = x
  rw [two_list] at hx
  subst hx
  simp [over, two_list]
theorem head_four (p : Pk) (m : Nat) (c : Int) : over (headT p m 0).data.toList 10 (twoT c.toNat).data.toList = (headT p m c).data.toList := by
  rw [head_list, head_list, four_list, four_list, two_list, two_list, two_list]
  simp [over]
theorem head_len (p : Pk) (m : Nat) (c : Int) : (headT p m c).data.toList.length = 20 := headT_size p m c

set_option maxHeartbeats 4000000 in
theorem headOf_x (p : Pk) (m : Nat) (w : World) (hs1 : addrB p.src = true) (hs2 : addrB p.dst = true) (hp1 : 0 ≤ p.proto) (hp2 : p.proto ≤ 255) (hm : m ≤ 1000) :
    Calls Tryd.prog 72 #[.agg #[.int .i64 p.src, .int .i64 p.dst, .int .i64 p.proto, .int .i64 p.a, .int .i64 p.b, .int .i64 p.kind, .int .i64 p.flags, .int .i64 p.seq, .int .i64 p.ack, .string p.body], .int .i64 (20 + (m : Int))] w fun e w' => e = .returned (.agg (cells8 (headT p m (checkAns (headT p m 0))).data.toList).toArray) ∧ Below w.heap.size w w' := by
  have hwf : IntKind.u8.wrap p.proto = p.proto := IntWalk.u8_in _ (by omega)
  have hwn : wordB (20 + (m : Int)) = true := wordB_iff.2 ⟨by omega, by omega⟩
  have hwc := checkAns_word (s := headT p m 0)
  have HS0 := hidS (HS.start w p hp1 hp2)
  go_enter Tryd.func72, Tryd.ntmps72
  iterate 29 (first | go_values | go_skip | go_guarded | go_step | go_upon | go_back)
  refine wpList_store_mid rfl 99 _ _ rfl (w.heap.size + 1 + 1) 0 #[.int .u8 69, .int .u8 0, .int .u8 0, .int .u8 0, .int .u8 0, .int .u8 0, .int .u8 0, .int .u8 0, .int .u8 64, .int .u8 p.proto, .int .u8 0, .int .u8 0, .int .u8 0, .int .u8 0, .int .u8 0, .int .u8 0, .int .u8 0, .int .u8 0, .int .u8 0, .int .u8 0] rfl rfl (HS.there w _ _) (by kernel_rfl) (by first | kernel_rfl | simp [Value.oneCell']) ?_
  simp only [Act.put]
  generalize (((w.alloc (.cells #[.int .i64 p.src, .int .i64 p.dst, .int .i64 p.proto, .int .i64 p.a, .int .i64 p.b, .int .i64 p.kind, .int .i64 p.flags, .int .i64 p.seq, .int .i64 p.ack, .string p.body] 30)).alloc (.cells #[.int .u8 0, .int .u8 0, .int .u8 0, .int .u8 0, .int .u8 0, .int .u8 0, .int .u8 0, .int .u8 0, .int .u8 0, .int .u8 0, .int .u8 0, .int .u8 0, .int .u8 0, .int .u8 0, .int .u8 0, .int .u8 0, .int .u8 0, .int .u8 0, .int .u8 0, .int .u8 0] 99)).alloc (.cells #[.int .u8 0, .int .u8 0, .int .u8 0, .int .u8 0, .int .u8 0, .int .u8 0, .int .u8 0, .int .u8 0, .int .u8 0, .int .u8 0, .int .u8 0, .int .u8 0, .int .u8 0, .int .u8 0, .int .u8 0, .int .u8 0, .int .u8 0, .int .u8 0, .int .u8 0, .int .u8 0] 99)).setCells (w.heap.size + 1 + 1) 0 #[.int .u8 69, .int .u8 0, .int .u8 0, .int .u8 0, .int .u8 0, .int .u8 0, .int .u8 0, .int .u8 0, .int .u8 64, .int .u8 p.proto, .int .u8 0, .int .u8 0, .int .u8 0, .int .u8 0, .int .u8 0, .int .u8 0, .int .u8 0, .int .u8 0, .int .u8 0, .int .u8 0].toList = w1 at HS0 ⊢
  go_wp2_with fail
  refine grow_copy 3 _ [.is (.slice (some ⟨w.heap.size + 1 + 1, 2, none⟩) 18 18), .is (.int .i64 (20 + (m : Int))), .is (.string (twoT (20 + (m : Int)).toNat))] 0 2 10 12 (w.heap.size + 1 + 1) 2 18 18 (twoT (20 + (m : Int)).toNat) _ rfl rfl rfl (by kernel_rfl) (by kernel_rfl) (by kernel_rfl) rfl rfl rfl (by decide) (by decide) rfl rfl HS0.out.row (by rw [twoT_size]; omega) (by rw [twoT_size]; simp) ?steps10 ?fin10
  case steps10 =>
    refine ⟨?_, ?_, ?_, trivial⟩
    · refine ⟨rfl, fun v W ρ hC kc kf ks ki kd => ?_⟩
      have t5 : ρ (.tmp 5) = .pointer (some ⟨w.heap.size + 1 + 1, 0, none⟩) := ki 5 (by decide)
      simp [execOp, go_sem, t5, kc, kc]
      exact ⟨hC, Below.refl _ _, rfl⟩
    · refine ⟨rfl, fun v W ρ hC kc kf ks ki kd => ?_⟩
      have t1 : ρ (.tmp 1) = .int .i64 (20 + (m : Int)) := ki 1 (by decide)
      simp [execOp, go_sem, t1]
      exact ⟨hC, Below.refl _ _, rfl⟩
    · refine ⟨rfl, fun v W ρ hC kc kf ks ki kd => ?_⟩
      have d1 : v 1 = .int .i64 (20 + (m : Int)) := kd _ (Array.mem_of_getElem? (i := 0) rfl) rfl
      have t11 : ρ (.tmp 11) = v 1 := ks 1 11 (by decide) rfl
      rw [d1] at t11
      simp [execOp, go_sem, t11, kf]
      exact Calls.mono (implWord_x _ _ (by assumption)) (fun e x h => ⟨_, h.1, hC.trans (h.2.mono hC.size), h.2, rfl⟩)
  intro v W hbel hoth hrow' hall
  simp [upto, Act.put]
  clear hall
  have HS1 := hidS (HS0.out.next hbel hoth hrow')
  clear hbel hoth hrow' HS0
  go_wp2_with fail
  refine grow_copy 4 _ [.is (.slice (some ⟨w.heap.size + 1 + 1, 12, none⟩) 8 8), .is (.pointer (some ⟨w.heap.size, 0, none⟩)), .is (.int .i64 p.src), .is (.string (fourT p.src.toNat))] 0 3 14 17 (w.heap.size + 1 + 1) 12 8 8 (fourT p.src.toNat) _ rfl rfl rfl (by kernel_rfl) (by kernel_rfl) (by kernel_rfl) rfl rfl rfl (by decide) (by decide) rfl rfl HS1.out.row (by rw [fourT_size]; omega) (by rw [fourT_size]; simp [over, two_list]) ?steps14 ?fin14
  case steps14 =>
    refine ⟨?_, ?_, ?_, ?_, trivial⟩
    · refine ⟨rfl, fun v W ρ hC kc kf ks ki kd => ?_⟩
      have t5 : ρ (.tmp 5) = .pointer (some ⟨w.heap.size + 1 + 1, 0, none⟩) := ki 5 (by decide)
      simp [execOp, go_sem, t5, kc, kc]
      exact ⟨hC, Below.refl _ _, rfl⟩
    · refine ⟨rfl, fun v W ρ hC kc kf ks ki kd => ?_⟩
      have t2 : ρ (.tmp 2) = .pointer (some ⟨w.heap.size, 0, none⟩) := ki 2 (by decide)
      simp [execOp, go_sem, t2]
      exact ⟨hC, Below.refl _ _, rfl⟩
    · refine ⟨rfl, fun v W ρ hC kc kf ks ki kd => ?_⟩
      have d1 : v 1 = .pointer (some ⟨w.heap.size, 0, none⟩) := kd _ (Array.mem_of_getElem? (i := 0) rfl) rfl
      have t15 : ρ (.tmp 15) = v 1 := ks 1 15 (by decide) rfl
      rw [d1] at t15
      have hp := blk_later HS1.out.h0 hC
      have c0 := blk_cell hp 0
      have c1 := blk_cell hp 1
      simp at c0 c1
      simp [execOp, go_sem, t15, c0]
      exact ⟨hC, Below.refl _ _, rfl⟩
    · refine ⟨rfl, fun v W ρ hC kc kf ks ki kd => ?_⟩
      have d2 : v 2 = .int .i64 p.src := kd _ (Array.mem_of_getElem? (i := 0) rfl) rfl
      have t16 : ρ (.tmp 16) = v 2 := ks 2 16 (by decide) rfl
      rw [d2] at t16
      simp [execOp, go_sem, t16, kf]
      exact Calls.mono (longText_x _ _ (by assumption)) (fun e x h => ⟨_, h.1, hC.trans (h.2.mono hC.size), h.2, rfl⟩)
  intro v W hbel hoth hrow' hall
  simp [upto, Act.put]
  clear hall
  have HS2 := hidS (HS1.out.next hbel hoth hrow')
  clear hbel hoth hrow' HS1
  go_wp2_with fail
  refine grow_copy 4 _ [.is (.slice (some ⟨w.heap.size + 1 + 1, 16, none⟩) 4 4), .is (.pointer (some ⟨w.heap.size, 1, none⟩)), .is (.int .i64 p.dst), .is (.string (fourT p.dst.toNat))] 0 3 19 22 (w.heap.size + 1 + 1) 16 4 4 (fourT p.dst.toNat) _ rfl rfl rfl (by kernel_rfl) (by kernel_rfl) (by kernel_rfl) rfl rfl rfl (by decide) (by decide) rfl rfl HS2.out.row (by rw [fourT_size]; omega) (by rw [fourT_size]; simp [over, two_list, four_list]) ?steps19 ?fin19
  case steps19 =>
    refine ⟨?_, ?_, ?_, ?_, trivial⟩
    · refine ⟨rfl, fun v W ρ hC kc kf ks ki kd => ?_⟩
      have t5 : ρ (.tmp 5) = .pointer (some ⟨w.heap.size + 1 + 1, 0, none⟩) := ki 5 (by decide)
      simp [execOp, go_sem, t5, kc, kc]
      exact ⟨hC, Below.refl _ _, rfl⟩
    · refine ⟨rfl, fun v W ρ hC kc kf ks ki kd => ?_⟩
      have t2 : ρ (.tmp 2) = .pointer (some ⟨w.heap.size, 0, none⟩) := ki 2 (by decide)
      simp [execOp, go_sem, t2]
      exact ⟨hC, Below.refl _ _, rfl⟩
    · refine ⟨rfl, fun v W ρ hC kc kf ks ki kd => ?_⟩
      have d1 : v 1 = .pointer (some ⟨w.heap.size, 1, none⟩) := kd _ (Array.mem_of_getElem? (i := 0) rfl) rfl
      have t20 : ρ (.tmp 20) = v 1 := ks 1 20 (by decide) rfl
      rw [d1] at t20
      have hp := blk_later HS2.out.h0 hC
      have c0 := blk_cell hp 0
      have c1 := blk_cell hp 1
      simp at c0 c1
      simp [execOp, go_sem, t20, c1]
      exact ⟨hC, Below.refl _ _, rfl⟩
    · refine ⟨rfl, fun v W ρ hC kc kf ks ki kd => ?_⟩
      have d2 : v 2 = .int .i64 p.dst := kd _ (Array.mem_of_getElem? (i := 0) rfl) rfl
      have t21 : ρ (.tmp 21) = v 2 := ks 2 21 (by decide) rfl
      rw [d2] at t21
      simp [execOp, go_sem, t21, kf]
      exact Calls.mono (longText_x _ _ (by assumption)) (fun e x h => ⟨_, h.1, hC.trans (h.2.mono hC.size), h.2, rfl⟩)
  intro v W hbel hoth hrow' hall
  simp [upto, Act.put]
  clear hall
  have HS3 := hidS (HS2.out.next hbel hoth hrow')
  rw [head_three] at HS3
  clear hbel hoth hrow' HS2
  go_wp2_with fail
  refine grow_copy 5 _ [.is (.slice (some ⟨w.heap.size + 1 + 1, 10, none⟩) 10 10), .is (.slice (some ⟨w.heap.size + 1 + 1, 0, none⟩) 20 20), .is (.string (headT p m 0)), .is (.int .i64 (checkAns (headT p m 0))), .is (.string (twoT (checkAns (headT p m 0)).toNat))] 0 4 24 28 (w.heap.size + 1 + 1) 10 10 10 (twoT (checkAns (headT p m 0)).toNat) _ rfl rfl rfl (by kernel_rfl) (by kernel_rfl) (by kernel_rfl) rfl rfl rfl (by decide) (by decide) rfl rfl HS3.out.row (by rw [twoT_size]; omega) (by rw [twoT_size]; rw [head_len]; omega) ?steps24 ?fin24
  case steps24 =>
    refine ⟨?_, ?_, ?_, ?_, ?_, trivial⟩
    · refine ⟨rfl, fun v W ρ hC kc kf ks ki kd => ?_⟩
      have t5 : ρ (.tmp 5) = .pointer (some ⟨w.heap.size + 1 + 1, 0, none⟩) := ki 5 (by decide)
      simp [execOp, go_sem, t5, kc, kc]
      exact ⟨hC, Below.refl _ _, rfl⟩
    · refine ⟨rfl, fun v W ρ hC kc kf ks ki kd => ?_⟩
      have t5 : ρ (.tmp 5) = .pointer (some ⟨w.heap.size + 1 + 1, 0, none⟩) := ki 5 (by decide)
      simp [execOp, go_sem, t5, kc]
      exact ⟨hC, Below.refl _ _, rfl⟩
    · refine ⟨rfl, fun v W ρ hC kc kf ks ki kd => ?_⟩
      have d1 : v 1 = .slice (some ⟨w.heap.size + 1 + 1, 0, none⟩) 20 20 := kd _ (Array.mem_of_getElem? (i := 0) rfl) rfl
      have t25 : ρ (.tmp 25) = v 1 := ks 1 25 (by decide) rfl
      rw [d1] at t25
      have hcv := BytesAt.conv 20 (HS3.out.row.later hC).bytes
      rw [head_len] at hcv
      have eh : (⟨(headT p m 0).data.toList.toArray⟩ : ByteArray) = headT p m 0 := by simp
      rw [eh] at hcv
      simp [execOp, go_sem, t25, hcv]
      exact ⟨hC, Below.refl _ _, rfl⟩
    · refine ⟨rfl, fun v W ρ hC kc kf ks ki kd => ?_⟩
      have d2 : v 2 = .string (headT p m 0) := kd _ (Array.mem_of_getElem? (i := 0) rfl) rfl
      have t26 : ρ (.tmp 26) = v 2 := ks 2 26 (by decide) rfl
      rw [d2] at t26
      simp [execOp, go_sem, t26, kf]
      exact Calls.mono (implCheckOf_any _ _ (by unfold maxLen; have := headT_size p m 0; omega)) (fun e x h => ⟨_, h.1, hC.trans (h.2.mono hC.size), h.2, rfl⟩)
    · refine ⟨rfl, fun v W ρ hC kc kf ks ki kd => ?_⟩
      have d3 : v 3 = .int .i64 (checkAns (headT p m 0)) := kd _ (Array.mem_of_getElem? (i := 0) rfl) rfl
      have t27 : ρ (.tmp 27) = v 3 := ks 3 27 (by decide) rfl
      rw [d3] at t27
      simp [execOp, go_sem, t27, kf]
      exact Calls.mono (implWord_x _ _ (by assumption)) (fun e x h => ⟨_, h.1, hC.trans (h.2.mono hC.size), h.2, rfl⟩)
  intro v W hbel hoth hrow' hall
  simp [upto, Act.put]
  clear hall
  have HS4 := hidS (HS3.out.next hbel hoth hrow')
  rw [head_four] at HS4
  clear hbel hoth hrow' HS3
  iterate 4 (first | go_values | go_skip | go_guarded | go_step | go_upon | go_back)
  have hlen : (cells8 (headT p m (checkAns (headT p m 0))).data.toList).length = 20 := by rw [cells8, List.length_map]; exact head_len p m _
  have hsz : ((Tryd.prog).info? 99).map (·.size) = some (cells8 (headT p m (checkAns (headT p m 0))).data.toList).length := by rw [hlen]; kernel_rfl
  refine wpList_load_mid rfl 99 _ rfl (w.heap.size + 1 + 1) 0 rfl (cells8 (headT p m (checkAns (headT p m 0))).data.toList) _ HS4.out.row.range Tryd.underlying99 rfl hsz ?_
  have hth : ∀ k, k = 20 → W.there (w.heap.size + 1) 0 k := fun k hk j hj => by
    subst hk
    have h := HS4.out.h1
    exact ⟨by simp only [World.cell?, h]; simp [hj], by simp only [World.frozen?, h]; simp⟩
  refine wpList_store_mid rfl 99 _ _ rfl (w.heap.size + 1) 0 (cells8 (headT p m (checkAns (headT p m 0))).data.toList).toArray rfl rfl (hth _ (by simpa using hlen)) (by simpa using hsz) (all_oneCell_toArray (fun v hv => by simp only [cells8, List.mem_map] at hv; obtain ⟨b, _, rfl⟩ := hv; rfl)) ?_
  have hr := World.rangeAt_setCells_same W (w.heap.size + 1) 0 (cells8 (headT p m (checkAns (headT p m 0))).data.toList) (hth _ hlen)
  have hE := hidS (below_setCells (B := w.heap.size) (b := w.heap.size + 1) (by omega) (cells8 (headT p m (checkAns (headT p m 0))).data.toList) 0 W HS4.out.bel)
  have hld := run_loadVar_mid (P := Tryd.prog) _ (w.heap.size + 1) 0 99 _ _ hr Tryd.underlying99 rfl hsz
  simp only [Act.put]
  clear hth HS4 hr hsz hlen
  generalize hL : cells8 (headT p m (checkAns (headT p m 0))).data.toList = L at hE hld ⊢
  have HL := hidS hL
  clear hL
  generalize W.setCells (w.heap.size + 1) 0 L = W5 at hE hld ⊢
  go_wp2_with fail
  exact bodyPost_ret (v := .agg L.toArray) (by simp [results, Tryd.results72, asAddr, hld]) rfl ⟨by rw [HL.out], hE.out⟩
end Go.Proofs.YthfhbmiddillbagDoor
end

section
namespace Go.Proofs.YthfhbmiddillbagDoor
open Go.ChangeShapes Go.WideShapes Go.ChangeAt Go.RowKit
open Go.ChangeMaps (open_string shut_string)
set_option linter.unusedVariables false
set_option maxRecDepth 100000
set_option linter.unusedSimpArgs false

/-- a text with some bytes at a place, as far as the text goes -/
def putAt (m l : List UInt8) (k : Nat) : List UInt8 := if k < l.length then over l k (m.take (l.length - k)) else l
def putAll (m l : List UInt8) (ks : List Nat) : List UInt8 := ks.foldl (putAt m) l
theorem putAt_length (m l : List UInt8) (k : Nat) : (putAt m l k).length = l.length := by
  unfold putAt; split
  · rw [over_length (by simp; omega)]
  · rfl
theorem putAll_length (m : List UInt8) : ∀ (ks : List Nat) (l : List UInt8), (putAll m l ks).length = l.length
  | [], l => rfl
  | k :: ks, l => by show (putAll m (putAt m l k) ks).length = _; rw [putAll_length m ks, putAt_length]
theorem putAll_succ (m l : List UInt8) (ks : List Nat) (k : Nat) (h : k < ks.length) : putAll m l (ks.take (k + 1)) = putAt m (putAll m l (ks.take k)) ks[k] := by
  rw [List.take_succ_eq_append_getElem h, putAll, List.foldl_append]; rfl
/-- '[]byte(s)' -/
theorem bytes_row8 (w : World) (s : ByteArray) : ∃ cap w4, (convert 9 72 (.string s)).run Tryd.prog w = .ok (.slice (some ⟨w.heap.size, 0, none⟩) s.size cap) w4 ∧ s.size ≤ cap ∧ Below w.heap.size w w4 ∧ Row8 w.heap.size s.data.toList w4 := by
  have h := run_bytes_of_string (P := Tryd.prog) w 9 72 5 s Tryd.underlying9 Tryd.underlying72 Tryd.underlying5
  have hsz : s.size ≤ (bytesRow s (grownCap w s.size 0 5)).size := by simp [bytesRow]
  have hh : (w.drew.alloc (.cells (bytesRow s (grownCap w s.size 0 5)) 5 ((bytesRow s (grownCap w s.size 0 5)).size, (bytesRow s (grownCap w s.size 0 5)).size + 1))).heap[w.heap.size]? = some (.cells (bytesRow s (grownCap w s.size 0 5)) 5 ((bytesRow s (grownCap w s.size 0 5)).size, (bytesRow s (grownCap w s.size 0 5)).size + 1)) := heap_newG w.drew _
  refine ⟨_, _, h, grownCap_ge _ _ _ _, ((Below.refl _ _).drew).alloc (Nat.le_refl _) _, by simp, fun j hj0 => ?_⟩
  have hj : j < s.size := by simpa using hj0
  have hj' : j < s.data.size := hj
  refine ⟨?_, ?_⟩
  · simp only [World.cell?, hh, Option.isSome_none]
    simp [bytesRow, Array.getElem?_append]
    rw [if_pos hj, Array.getElem?_eq_getElem hj']
    rfl
  · simp only [World.frozen?, hh]
    simp
    omega

set_option maxHeartbeats 4000000 in
theorem withWord_x (s : ByteArray) (x : Int) (gp cp : Nat) (ks : List Nat) (w : World) (hx : wordB x = true) (hc : ∀ j, (h : j < ks.length) → w.cell? ⟨gp, j, none⟩ = some (.int .i64 (ks[j] : Int))) (hgp : gp < w.heap.size) (hl : ks.length ≤ 1000) (hk : ∀ k ∈ ks, k ≤ 100000) (hs : s.size ≤ 100000) :
    Calls Tryd.prog 55 #[.string s, .int .i64 x, .slice (some ⟨gp, 0, none⟩) ks.length cp] w fun e w' => e = .returned (.string ⟨(putAll (twoT x.toNat).data.toList s.data.toList ks).toArray⟩) ∧ Below w.heap.size w w' := by
  have HC := hidS hc
  have HK := hidS hk
  clear hc hk
  obtain ⟨cap, w4, hcv, hcap, hb4, hrow⟩ := bytes_row8 w s
  have HB4 := hidS hb4
  have HR4 := hidS hrow
  clear hb4 hrow
  go_enter Tryd.func55, Tryd.ntmps55
  go_wp2_with fail
  clear hcv
  go_loopw [14] (fun i wr => ∃ k : Nat, k ≤ ks.length ∧ i = .int .i64 k ∧ Hid (Below w.heap.size w wr ∧ Row8 w.heap.size (putAll (twoT x.toNat).data.toList s.data.toList (ks.take k)) wr)) (fun i _ => ks.length - (intOf i).toNat)
  case atStart => exact ⟨0, by omega, rfl, ⟨HB4.out, HR4.out⟩⟩
  case round =>
    obtain ⟨k, hk, rfl, hI⟩ := hrel
    have hlen : (putAll (twoT x.toNat).data.toList s.data.toList (ks.take k)).length = s.size := by rw [putAll_length]; simp
    by_cases h : k < ks.length
    · have h' : (k : Int) < (ks.length : Int) := by omega
      have hck := (hI.out.1.cell (p := ⟨gp, k, none⟩) hgp).trans (HC.out k h)
      have hkb := HK.out ks[k] (List.getElem_mem h)
      have hsu := hidS (putAll_succ (twoT x.toNat).data.toList s.data.toList ks k h)
      generalize ks[k] = at0 at *
      generalize putAll (twoT x.toNat).data.toList s.data.toList (ks.take k) = l at *
      by_cases hin : at0 < s.size
      · have hin' : (at0 : Int) < (s.size : Int) := by omega
        have hpa : Hid (putAt (twoT x.toNat).data.toList l at0 = over l at0 ((twoT x.toNat).data.toList.take (s.size - at0))) := by show _ = _; rw [putAt, if_pos (by omega), hlen]
        have hne : ¬ cap = at0 := by omega
        have hle0 : at0 ≤ s.size := by omega
        have hRow := hidS hI.out.2
        have hBel := hidS hI.out.1
        clear hI
        go_wp2_with fail
        refine grow_copyc 5 _ [.is (.slice (some ⟨w.heap.size, 0, none⟩) s.size cap), .is (.int .i64 (at0 : Int)), .is (.slice (some ⟨w.heap.size, at0, none⟩) (s.size - at0) (cap - at0)), .is (.int .i64 x), .is (.string (twoT x.toNat))] 2 4 24 26 w.heap.size at0 (s.size - at0) (cap - at0) (twoT x.toNat) l rfl rfl rfl (by kernel_rfl) (by kernel_rfl) (by kernel_rfl) rfl rfl rfl (by decide) (by decide) rfl rfl hRow.out (by rw [hlen]; omega) ?steps24 ?fin24
        case steps24 =>
          refine ⟨?_, ?_, ?_, ?_, ?_, trivial⟩
          · refine ⟨rfl, fun v W ρ hC kc kf ks ki kd => ?_⟩
            have t7 : ρ (.tmp 7) = .slice (some ⟨w.heap.size, 0, none⟩) s.size cap := ki 7 (by decide)
            simp [execOp, go_sem, t7]
            exact ⟨hC, Below.refl _ _, rfl⟩
          · refine ⟨rfl, fun v W ρ hC kc kf ks ki kd => ?_⟩
            have t9 : ρ (.tmp 9) = .int .i64 (at0 : Int) := ki 9 (by decide)
            simp [execOp, go_sem, t9]
            exact ⟨hC, Below.refl _ _, rfl⟩
          · refine ⟨rfl, fun v W ρ hC kc kf ks ki kd => ?_⟩
            have d0 : v 0 = .slice (some ⟨w.heap.size, 0, none⟩) s.size cap := kd _ (Array.mem_of_getElem? (i := 0) rfl) rfl
            have t22 : ρ (.tmp 22) = v 0 := ks 0 22 (by decide) rfl
            rw [d0] at t22
            have d1 : v 1 = .int .i64 (at0 : Int) := kd _ (Array.mem_of_getElem? (i := 1) rfl) rfl
            have t23 : ρ (.tmp 23) = v 1 := ks 1 23 (by decide) rfl
            rw [d1] at t23
            simp [execOp, go_sem, t22, t23, hne, hle0]
            exact ⟨hC, Below.refl _ _, rfl⟩
          · refine ⟨rfl, fun v W ρ hC kc kf ks ki kd => ?_⟩
            have t1 : ρ (.tmp 1) = .int .i64 x := ki 1 (by decide)
            simp [execOp, go_sem, t1]
            exact ⟨hC, Below.refl _ _, rfl⟩
          · refine ⟨rfl, fun v W ρ hC kc kf ks ki kd => ?_⟩
            have d3 : v 3 = .int .i64 x := kd _ (Array.mem_of_getElem? (i := 0) rfl) rfl
            have t25 : ρ (.tmp 25) = v 3 := ks 3 25 (by decide) rfl
            rw [d3] at t25
            simp [execOp, go_sem, t25, kf]
            exact Calls.mono (implWord_x _ _ (by assumption)) (fun e x h => ⟨_, h.1, hC.trans (h.2.mono hC.size), h.2, rfl⟩)
        intro v W hbel hoth hrow' hall
        simp [upto, Act.put]
        clear hall
        have hE : Hid (Below w.heap.size w W ∧ Row8 w.heap.size (putAll (twoT x.toNat).data.toList s.data.toList (ks.take (k + 1))) W) := ⟨hBel.out.trans (hbel _ (Nat.le_refl _)), by rw [hsu.out, hpa.out]; exact hrow'⟩
        clear hbel hoth hrow' hBel hRow hsu hpa
        go_wp2_with fail
        go_roundw
        case rel => exact ⟨k + 1, by omega, by go_num, hE⟩
        case measure => simp [intOf]; omega
      · have hin' : ¬ (at0 : Int) < (s.size : Int) := by omega
        have hE : Hid (Below w.heap.size w wr ∧ Row8 w.heap.size (putAll (twoT x.toNat).data.toList s.data.toList (ks.take (k + 1))) wr) := ⟨hI.out.1, by rw [hsu.out, putAt, if_neg (by omega)]; exact hI.out.2⟩
        clear hI hsu
        go_wp2_with fail
        go_roundw
        case rel => exact ⟨k + 1, by omega, by go_num, hE⟩
        case measure => simp [intOf]; omega
    · have h' : ¬ (k : Int) < (ks.length : Int) := by omega
      have hI2 := hI.out
      rw [List.take_of_length_le (by omega)] at hI2 hlen
      have hcv := BytesAt.conv cap hI2.2.bytes
      rw [hlen] at hcv
      have hE := hidS hI2.1
      clear hI hI2
      go_wp2_with fail
      go_ret
      exact ⟨rfl, hE.out⟩
end Go.Proofs.YthfhbmiddillbagDoor
end

section
namespace Go.Proofs.YthfhbmiddillbagDoor
open Go.ChangeShapes Go.WideShapes Go.ChangeAt Go.RowKit
open Go.ChangeMaps (open_string shut_string)
set_option linter.unusedVariables false
set_option maxRecDepth 100000

theorem as_tcp_tcp (v : Value) (W : World) : (Instr.typeAssert (.iface 106 v) 74 106 true).run Tryd.prog W = .ok (.tuple #[v, .bool true]) W := by kernel_rfl
theorem as_tcp_udp (v : Value) (W : World) : (Instr.typeAssert (.iface 106 v) 74 108 true).run Tryd.prog W = .ok (.tuple #[.agg #[.int .i64 0, .int .i64 0, .string ⟨#[]⟩], .bool false]) W := by kernel_rfl
theorem as_udp_tcp (v : Value) (W : World) : (Instr.typeAssert (.iface 108 v) 74 106 true).run Tryd.prog W = .ok (.tuple #[.agg #[.int .i64 0, .int .i64 0, .int .i64 0, .int .i64 0, .int .i64 0, .string ⟨#[]⟩], .bool false]) W := by kernel_rfl
theorem as_udp_udp (v : Value) (W : World) : (Instr.typeAssert (.iface 108 v) 74 108 true).run Tryd.prog W = .ok (.tuple #[v, .bool true]) W := by kernel_rfl
theorem as_err_tcp (v : Value) (W : World) : (Instr.typeAssert (.iface 110 v) 74 106 true).run Tryd.prog W = .ok (.tuple #[.agg #[.int .i64 0, .int .i64 0, .int .i64 0, .int .i64 0, .int .i64 0, .string ⟨#[]⟩], .bool false]) W := by kernel_rfl
theorem as_err_udp (v : Value) (W : World) : (Instr.typeAssert (.iface 110 v) 74 108 true).run Tryd.prog W = .ok (.tuple #[.agg #[.int .i64 0, .int .i64 0, .string ⟨#[]⟩], .bool false]) W := by kernel_rfl
theorem as_echo_tcp (v : Value) (W : World) : (Instr.typeAssert (.iface 112 v) 74 106 true).run Tryd.prog W = .ok (.tuple #[.agg #[.int .i64 0, .int .i64 0, .int .i64 0, .int .i64 0, .int .i64 0, .string ⟨#[]⟩], .bool false]) W := by kernel_rfl
theorem as_echo_udp (v : Value) (W : World) : (Instr.typeAssert (.iface 112 v) 74 108 true).run Tryd.prog W = .ok (.tuple #[.agg #[.int .i64 0, .int .i64 0, .string ⟨#[]⟩], .bool false]) W := by kernel_rfl
theorem as_none_tcp (W : World) : (Instr.typeAssert .nilIface 74 106 true).run Tryd.prog W = .ok (.tuple #[.agg #[.int .i64 0, .int .i64 0, .int .i64 0, .int .i64 0, .int .i64 0, .string ⟨#[]⟩], .bool false]) W := by kernel_rfl
theorem as_none_udp (W : World) : (Instr.typeAssert .nilIface 74 108 true).run Tryd.prog W = .ok (.tuple #[.agg #[.int .i64 0, .int .i64 0, .string ⟨#[]⟩], .bool false]) W := by kernel_rfl
theorem checkAt_tcp (v : Value) (w : World) :
    Calls Tryd.prog 54 #[.iface 106 v] w fun e w' => e = .returned (.int .i64 36) ∧ Below w.heap.size w w' := by
  have h1 := as_tcp_tcp v
  have h2 := as_tcp_udp v
  go_enter Tryd.func54, Tryd.ntmps54
  go_wp2
  go_ret
  exact ⟨rfl, Below.refl _ _⟩
theorem checkAt_udp (v : Value) (w : World) :
    Calls Tryd.prog 54 #[.iface 108 v] w fun e w' => e = .returned (.int .i64 26) ∧ Below w.heap.size w w' := by
  have h1 := as_udp_tcp v
  have h2 := as_udp_udp v
  go_enter Tryd.func54, Tryd.ntmps54
  go_wp2
  go_ret
  exact ⟨rfl, Below.refl _ _⟩
theorem checkAt_err (v : Value) (w : World) :
    Calls Tryd.prog 54 #[.iface 110 v] w fun e w' => e = .returned (.int .i64 22) ∧ Below w.heap.size w w' := by
  have h1 := as_err_tcp v
  have h2 := as_err_udp v
  go_enter Tryd.func54, Tryd.ntmps54
  go_wp2
  go_ret
  exact ⟨rfl, Below.refl _ _⟩
theorem checkAt_echo (v : Value) (w : World) :
    Calls Tryd.prog 54 #[.iface 112 v] w fun e w' => e = .returned (.int .i64 22) ∧ Below w.heap.size w w' := by
  have h1 := as_echo_tcp v
  have h2 := as_echo_udp v
  go_enter Tryd.func54, Tryd.ntmps54
  go_wp2
  go_ret
  exact ⟨rfl, Below.refl _ _⟩
theorem checkAt_none (w : World) :
    Calls Tryd.prog 54 #[.nilIface] w fun e w' => e = .returned (.int .i64 22) ∧ Below w.heap.size w w' := by
  have h1 := as_none_tcp
  have h2 := as_none_udp
  go_enter Tryd.func54, Tryd.ntmps54
  go_wp2
  go_ret
  exact ⟨rfl, Below.refl _ _⟩
end Go.Proofs.YthfhbmiddillbagDoor
end

section
namespace Go.Proofs.YthfhbmiddillbagDoor
open Go.ChangeShapes Go.WideShapes Go.ChangeAt Go.RowKit
open Go.ChangeMaps (open_string shut_string)
set_option linter.unusedVariables false
set_option maxRecDepth 100000
set_option linter.unusedSimpArgs false

theorem rawAll2 (a b : ByteArray) : rawAll [a, b] = rawSum a.data.toList + rawSum b.data.toList := by simp [rawAll]
theorem two_row (z : Int) (h0 : 0 ≤ z) (h1 : z ≤ 255) : twoT z.toNat = rowT [0, z] := by
  have e1 : z.toNat / 256 = 0 := by omega
  have e2 : z.toNat % 256 = z.toNat := by omega
  unfold twoT rowT rowL
  rw [e1, e2]
  rfl
theorem ends_sum (p : Pk) (t : ByteArray) (h0 : 0 ≤ p.proto) (h1 : p.proto ≤ 255) (ht : t.size ≤ 1000) :
    (65535 : Int) - ((foldN (rawAll [catT [fourT p.src.toNat, fourT p.dst.toNat, twoT p.proto.toNat, twoT t.size], t]) : Nat) : Int) = checkAns (pseudoT p t) := by
  have e : (pseudoT p t).data.toList = (catT [fourT p.src.toNat, fourT p.dst.toNat, twoT p.proto.toNat, twoT t.size]).data.toList ++ t.data.toList := by
    rw [two_row p.proto h0 h1]
    simp [pseudoT, catT, catL]
  have hl : (catT [fourT p.src.toNat, fourT p.dst.toNat, twoT p.proto.toNat, twoT t.size]).data.toList.length = 2 * 6 := by
    have a1 := fourT_size p.src.toNat
    have a2 := fourT_size p.dst.toNat
    have a3 := twoT_size p.proto.toNat
    have a4 := twoT_size t.size
    simp [catT, catL, a1, a2, a3, a4]
  have hs : (pseudoT p t).size = 12 + t.size := by
    have : (pseudoT p t).data.toList.length = 12 + t.size := by rw [e, List.length_append, hl]; simp
    simpa using this
  unfold checkAns sumAns
  rw [if_neg (by omega), if_neg (by omega), rawAll2, e, rawSum_app 6 _ _ hl]

set_option maxHeartbeats 4000000 in
theorem ends_x (p : Pk) (t : ByteArray) (w : World) (hs1 : addrB p.src = true) (hs2 : addrB p.dst = true) (hp1 : 0 ≤ p.proto) (hp2 : p.proto ≤ 255) (ht : t.size ≤ 1000) :
    Calls Tryd.prog 95 #[.agg #[.int .i64 p.src, .int .i64 p.dst, .int .i64 p.proto, .int .i64 p.a, .int .i64 p.b, .int .i64 p.kind, .int .i64 p.flags, .int .i64 p.seq, .int .i64 p.ack, .string p.body], .string t] w fun e w' => e = .returned (.int .i64 (checkAns (pseudoT p t))) ∧ Below w.heap.size w w' := by
  have hwp : wordB p.proto = true := wordB_iff.2 ⟨by omega, by omega⟩
  have hwt : wordB (t.size : Int) = true := wordB_iff.2 ⟨by omega, by omega⟩
  have HP := hidS (PkAt.new p w)
  have hE := hidS (ends_sum p t hp1 hp2 ht)
  have hB1 := hidS ((Below.refl w.heap.size w).alloc (Nat.le_refl _) (.cells #[.int .i64 p.src, .int .i64 p.dst, .int .i64 p.proto, .int .i64 p.a, .int .i64 p.b, .int .i64 p.kind, .int .i64 p.flags, .int .i64 p.seq, .int .i64 p.ack, .string p.body] 30))
  go_enter Tryd.func95, Tryd.ntmps95
  go_wp2_with fail
  generalize w.alloc (.cells #[.int .i64 p.src, .int .i64 p.dst, .int .i64 p.proto, .int .i64 p.a, .int .i64 p.b, .int .i64 p.kind, .int .i64 p.flags, .int .i64 p.seq, .int .i64 p.ack, .string p.body] 30) = w1 at HP hB1 ⊢
  refine grow_kinds 15 [.is (.pointer (some ⟨w.heap.size, 0, none⟩)), .is (.int .i64 p.src), .is (.string (fourT p.src.toNat)), .is (.pointer (some ⟨w.heap.size, 1, none⟩)), .is (.int .i64 p.dst), .is (.string (fourT p.dst.toNat)), .is (.pointer (some ⟨w.heap.size, 2, none⟩)), .is (.int .i64 p.proto), .is (.string (twoT p.proto.toNat)), .is (.string t), .is (.int .i64 (t.size : Int)), .is (.string (twoT t.size)), .vals [.string (fourT p.src.toNat), .string (fourT p.dst.toNat), .string (twoT p.proto.toNat), .string (twoT t.size)], .is (.string (catT [(fourT p.src.toNat), (fourT p.dst.toNat), (twoT p.proto.toNat), (twoT t.size)])), .is (.string (catT [(fourT p.src.toNat), (fourT p.dst.toNat), (twoT p.proto.toNat), (twoT t.size)]))] rfl (by kernel_rfl) (by kernel_rfl) ?steps ?fin
  case steps =>
    refine ⟨?_, ?_, ?_, ?_, ?_, ?_, ?_, ?_, ?_, ?_, ?_, ?_, ?_, ?_, ?_, trivial⟩
    · refine ⟨rfl, fun v W ρ hC kc kf ks ki kd => ?_⟩
      have t2 : ρ (.tmp 2) = .pointer (some ⟨w.heap.size, 0, none⟩) := ki 2 (by decide)
      simp [execOp, go_sem, t2]
      exact ⟨hC, Below.refl _ _, rfl⟩
    · refine ⟨rfl, fun v W ρ hC kc kf ks ki kd => ?_⟩
      have d0 : v 0 = .pointer (some ⟨w.heap.size, 0, none⟩) := kd _ (Array.mem_of_getElem? (i := 0) rfl) rfl
      have t6 : ρ (.tmp 6) = v 0 := ks 0 6 (by decide) rfl
      rw [d0] at t6
      have hp := HP.out.later hC
      obtain ⟨c0, c1, c2, c3, c4, c5, c6, c7, c8, c9⟩ := hp
      simp [execOp, go_sem, t6, c0]
      exact ⟨hC, Below.refl _ _, rfl⟩
    · refine ⟨rfl, fun v W ρ hC kc kf ks ki kd => ?_⟩
      have d1 : v 1 = .int .i64 p.src := kd _ (Array.mem_of_getElem? (i := 0) rfl) rfl
      have t7 : ρ (.tmp 7) = v 1 := ks 1 7 (by decide) rfl
      rw [d1] at t7
      simp [execOp, go_sem, t7, kf]
      exact Calls.mono (longText_x _ _ (by assumption)) (fun e x h => ⟨_, h.1, hC.trans (h.2.mono hC.size), h.2, rfl⟩)
    · refine ⟨rfl, fun v W ρ hC kc kf ks ki kd => ?_⟩
      have t2 : ρ (.tmp 2) = .pointer (some ⟨w.heap.size, 0, none⟩) := ki 2 (by decide)
      simp [execOp, go_sem, t2]
      exact ⟨hC, Below.refl _ _, rfl⟩
    · refine ⟨rfl, fun v W ρ hC kc kf ks ki kd => ?_⟩
      have d3 : v 3 = .pointer (some ⟨w.heap.size, 1, none⟩) := kd _ (Array.mem_of_getElem? (i := 0) rfl) rfl
      have t9 : ρ (.tmp 9) = v 3 := ks 3 9 (by decide) rfl
      rw [d3] at t9
      have hp := HP.out.later hC
      obtain ⟨c0, c1, c2, c3, c4, c5, c6, c7, c8, c9⟩ := hp
      simp [execOp, go_sem, t9, c1]
      exact ⟨hC, Below.refl _ _, rfl⟩
    · refine ⟨rfl, fun v W ρ hC kc kf ks ki kd => ?_⟩
      have d4 : v 4 = .int .i64 p.dst := kd _ (Array.mem_of_getElem? (i := 0) rfl) rfl
      have t10 : ρ (.tmp 10) = v 4 := ks 4 10 (by decide) rfl
      rw [d4] at t10
      simp [execOp, go_sem, t10, kf]
      exact Calls.mono (longText_x _ _ (by assumption)) (fun e x h => ⟨_, h.1, hC.trans (h.2.mono hC.size), h.2, rfl⟩)
    · refine ⟨rfl, fun v W ρ hC kc kf ks ki kd => ?_⟩
      have t2 : ρ (.tmp 2) = .pointer (some ⟨w.heap.size, 0, none⟩) := ki 2 (by decide)
      simp [execOp, go_sem, t2]
      exact ⟨hC, Below.refl _ _, rfl⟩
    · refine ⟨rfl, fun v W ρ hC kc kf ks ki kd => ?_⟩
      have d6 : v 6 = .pointer (some ⟨w.heap.size, 2, none⟩) := kd _ (Array.mem_of_getElem? (i := 0) rfl) rfl
      have t12 : ρ (.tmp 12) = v 6 := ks 6 12 (by decide) rfl
      rw [d6] at t12
      have hp := HP.out.later hC
      obtain ⟨c0, c1, c2, c3, c4, c5, c6, c7, c8, c9⟩ := hp
      simp [execOp, go_sem, t12, c2]
      exact ⟨hC, Below.refl _ _, rfl⟩
    · refine ⟨rfl, fun v W ρ hC kc kf ks ki kd => ?_⟩
      have d7 : v 7 = .int .i64 p.proto := kd _ (Array.mem_of_getElem? (i := 0) rfl) rfl
      have t13 : ρ (.tmp 13) = v 7 := ks 7 13 (by decide) rfl
      rw [d7] at t13
      simp [execOp, go_sem, t13, kf]
      exact Calls.mono (implWord_x _ _ (by assumption)) (fun e x h => ⟨_, h.1, hC.trans (h.2.mono hC.size), h.2, rfl⟩)
    · refine ⟨rfl, fun v W ρ hC kc kf ks ki kd => ?_⟩
      have t1 : ρ (.tmp 1) = .string t := ki 1 (by decide)
      simp [execOp, go_sem, t1]
      exact ⟨hC, Below.refl _ _, rfl⟩
    · refine ⟨rfl, fun v W ρ hC kc kf ks ki kd => ?_⟩
      have d9 : v 9 = .string t := kd _ (Array.mem_of_getElem? (i := 0) rfl) rfl
      have t15 : ρ (.tmp 15) = v 9 := ks 9 15 (by decide) rfl
      rw [d9] at t15
      simp [execOp, go_sem, t15]
      exact ⟨hC, Below.refl _ _, rfl⟩
    · refine ⟨rfl, fun v W ρ hC kc kf ks ki kd => ?_⟩
      have d10 : v 10 = .int .i64 (t.size : Int) := kd _ (Array.mem_of_getElem? (i := 0) rfl) rfl
      have t16 : ρ (.tmp 16) = v 10 := ks 10 16 (by decide) rfl
      rw [d10] at t16
      simp [execOp, go_sem, t16, kf]
      exact Calls.mono (implWord_x _ _ (by assumption)) (fun e x h => ⟨_, h.1, hC.trans (h.2.mono hC.size), h.2, rfl⟩)
    · refine ⟨rfl, fun v W ρ hC kc kf ks ki kd => ?_⟩
      have d2 : v 2 = .string (fourT p.src.toNat) := kd _ (Array.mem_of_getElem? (i := 0) rfl) rfl
      have t8 : ρ (.tmp 8) = v 2 := ks 2 8 (by decide) rfl
      rw [d2] at t8
      have d5 : v 5 = .string (fourT p.dst.toNat) := kd _ (Array.mem_of_getElem? (i := 1) rfl) rfl
      have t11 : ρ (.tmp 11) = v 5 := ks 5 11 (by decide) rfl
      rw [d5] at t11
      have d8 : v 8 = .string (twoT p.proto.toNat) := kd _ (Array.mem_of_getElem? (i := 2) rfl) rfl
      have t14 : ρ (.tmp 14) = v 8 := ks 8 14 (by decide) rfl
      rw [d8] at t14
      have d11 : v 11 = .string (twoT t.size) := kd _ (Array.mem_of_getElem? (i := 3) rfl) rfl
      have t17 : ρ (.tmp 17) = v 11 := ks 11 17 (by decide) rfl
      rw [d11] at t17
      simp [execOp, go_sem, t8, t11, t14, t17]
      exact ⟨hC.alloc hC.size _, (Below.refl _ _).alloc (Nat.le_refl _) _, W.heap.size, rfl, vals_at [.string (fourT p.src.toNat), .string (fourT p.dst.toNat), .string (twoT p.proto.toNat), .string (twoT t.size)] _⟩
    · refine ⟨rfl, fun v W ρ hC kc kf ks ki kd => ?_⟩
      obtain ⟨B12, e12, hB12⟩ : ∃ B, v 12 = .slice (some ⟨B, 0, none⟩) 4 4 ∧ ValsAt B [.string (fourT p.src.toNat), .string (fourT p.dst.toNat), .string (twoT p.proto.toNat), .string (twoT t.size)] W := kd _ (Array.mem_of_getElem? (i := 0) rfl) rfl
      have t18 : ρ (.tmp 18) = v 12 := ks 12 18 (by decide) rfl
      rw [e12] at t18
      simp [execOp, go_sem, t18, kf]
      exact Calls.mono (joinTexts_any B12 [(fourT p.src.toNat), (fourT p.dst.toNat), (twoT p.proto.toNat), (twoT t.size)] _ (ValsAt.strs (ts := [(fourT p.src.toNat), (fourT p.dst.toNat), (twoT p.proto.toNat), (twoT t.size)]) hB12) hB12.1 (by simp) (by simp [twoT_size, fourT_size])) (fun e x h => ⟨_, h.1, hC.trans (h.2.mono hC.size), h.2, rfl⟩)
    · refine ⟨rfl, fun v W ρ hC kc kf ks ki kd => ?_⟩
      have d13 : v 13 = .string (catT [(fourT p.src.toNat), (fourT p.dst.toNat), (twoT p.proto.toNat), (twoT t.size)]) := kd _ (Array.mem_of_getElem? (i := 0) rfl) rfl
      have t19 : ρ (.tmp 19) = v 13 := ks 13 19 (by decide) rfl
      rw [d13] at t19
      simp [execOp, go_sem, t19]
      exact ⟨hC, Below.refl _ _, rfl⟩
  case fin =>
    intro v W hC hall
    have hL5 : v 14 = .string (catT [(fourT p.src.toNat), (fourT p.dst.toNat), (twoT p.proto.toNat), (twoT t.size)]) := hall 14 (by decide)
    simp [upto, Act.put]
    rw [hL5]
    clear hall hL5
    have hL := hidS (hB1.out.trans (hC.mono hB1.out.size))
    clear hC hB1 HP
    have hv := vals_at (W := W) [.string (catT [fourT p.src.toNat, fourT p.dst.toNat, twoT p.proto.toNat, twoT t.size]), .string t] 9
    have hz : (catT [fourT p.src.toNat, fourT p.dst.toNat, twoT p.proto.toNat, twoT t.size]).size ≤ 100000 := by
      have := catL_len 4 [fourT p.src.toNat, fourT p.dst.toNat, twoT p.proto.toNat, twoT t.size] (by simp [twoT_size, fourT_size]) (by simp)
      have a1 := fourT_size p.src.toNat
      have a2 := fourT_size p.dst.toNat
      have a3 := twoT_size p.proto.toNat
      have a4 := twoT_size t.size
      show (catL _).toArray.size ≤ _
      simp [catL, a1, a2, a3, a4]
    have hsm := sumTexts_any W.heap.size [catT [fourT p.src.toNat, fourT p.dst.toNat, twoT p.proto.toNat, twoT t.size], t] _ (ValsAt.strs (ts := [catT [fourT p.src.toNat, fourT p.dst.toNat, twoT p.proto.toNat, twoT t.size], t]) hv) (by simp) (by simp; omega)
    have HSM := hidS hsm
    have hA := hidS (hL.out.alloc hL.out.size (.cells #[.string (catT [fourT p.src.toNat, fourT p.dst.toNat, twoT p.proto.toNat, twoT t.size]), .string t] 9))
    have hfl := foldN_le (rawAll [catT [fourT p.src.toNat, fourT p.dst.toNat, twoT p.proto.toNat, twoT t.size], t])
    clear hv hz hsm hL
    generalize catT [fourT p.src.toNat, fourT p.dst.toNat, twoT p.proto.toNat, twoT t.size] = ends at *
    go_wp2_with fail
    refine HSM.out.mono ?_
    rintro _ w3 ⟨rfl, rfl⟩
    clear HSM
    go_wp2_with fail
    go_ret
    exact ⟨by rw [← hE.out]; rfl, hA.out⟩

/-- what checkOfPart answers of a tail -/
def partC (p : Pk) (t : ByteArray) : Int := if p.proto = 1 then checkAns t else if p.proto = 17 ∧ checkAns (pseudoT p t) = 0 then 65535 else checkAns (pseudoT p t)
theorem partC_tail (p : Pk) : partC p (tailT p 0) = checkT p := rfl
theorem checkOfPart_tcp (p : Pk) (v : Value) (t : ByteArray) (w : World) (h6 : p.proto = 6) (hs1 : addrB p.src = true) (hs2 : addrB p.dst = true) (ht : t.size ≤ 1000) :
    Calls Tryd.prog 74 #[.agg #[.int .i64 p.src, .int .i64 p.dst, .int .i64 p.proto, .int .i64 p.a, .int .i64 p.b, .int .i64 p.kind, .int .i64 p.flags, .int .i64 p.seq, .int .i64 p.ack, .string p.body], .iface 106 v, .string t] w fun e w' => e = .returned (.int .i64 (partC p t)) ∧ Below w.heap.size w w' := by
  have e0 : Hid (partC p t = checkAns (pseudoT p t)) := by show _ = _; unfold partC; rw [if_neg (by omega), if_neg (by omega)]
  have hX := hidS (fun W => ends_x p t W hs1 hs2 (by omega) (by omega) ht)
  have hB1 := hidS ((Below.refl w.heap.size w).alloc (Nat.le_refl _) (.cells #[.int .i64 p.src, .int .i64 p.dst, .int .i64 p.proto, .int .i64 p.a, .int .i64 p.b, .int .i64 p.kind, .int .i64 p.flags, .int .i64 p.seq, .int .i64 p.ack, .string p.body] 30))
  have h1 := as_tcp_tcp v
  clear h6 hs1 hs2
  go_enter Tryd.func74, Tryd.ntmps74
  go_wp2_with fail
  refine (hX.out _).mono ?_
  rintro _ w2 ⟨rfl, hb2⟩
  have hE := hidS (hB1.out.trans (hb2.mono hB1.out.size))
  clear hb2 hB1 hX h1
  go_wp2_with fail
  go_ret
  exact ⟨by rw [e0.out]; rfl, hE.out⟩
theorem checkOfPart_udp (p : Pk) (v : Value) (t : ByteArray) (w : World) (h17 : p.proto = 17) (hs1 : addrB p.src = true) (hs2 : addrB p.dst = true) (ht : t.size ≤ 1000) :
    Calls Tryd.prog 74 #[.agg #[.int .i64 p.src, .int .i64 p.dst, .int .i64 p.proto, .int .i64 p.a, .int .i64 p.b, .int .i64 p.kind, .int .i64 p.flags, .int .i64 p.seq, .int .i64 p.ack, .string p.body], .iface 108 v, .string t] w fun e w' => e = .returned (.int .i64 (partC p t)) ∧ Below w.heap.size w w' := by
  have hX := hidS (fun W => ends_x p t W hs1 hs2 (by omega) (by omega) ht)
  have hB1 := hidS ((Below.refl w.heap.size w).alloc (Nat.le_refl _) (.cells #[.int .i64 p.src, .int .i64 p.dst, .int .i64 p.proto, .int .i64 p.a, .int .i64 p.b, .int .i64 p.kind, .int .i64 p.flags, .int .i64 p.seq, .int .i64 p.ack, .string p.body] 30))
  have h1 := as_udp_tcp v
  have h2 := as_udp_udp v
  by_cases hz : checkAns (pseudoT p t) = 0
  · have e0 : Hid (partC p t = 65535) := by show _ = _; unfold partC; rw [if_neg (by omega), if_pos ⟨h17, hz⟩]
    clear h17 hs1 hs2
    go_enter Tryd.func74, Tryd.ntmps74
    go_wp2_with fail
    refine (hX.out _).mono ?_
    rintro _ w2 ⟨rfl, hb2⟩
    have hE := hidS (hB1.out.trans (hb2.mono hB1.out.size))
    rw [hz]
    clear hb2 hB1 hX h1 h2 hz
    go_wp2_with fail
    go_ret
    exact ⟨by rw [e0.out]; rfl, hE.out⟩
  · have e0 : Hid (partC p t = checkAns (pseudoT p t)) := by show _ = _; unfold partC; rw [if_neg (by omega), if_neg (by rintro ⟨_, q⟩; exact hz q)]
    have hz' : (checkAns (pseudoT p t) != 0) = true := by simpa using hz
    clear h17 hs1 hs2
    go_enter Tryd.func74, Tryd.ntmps74
    go_wp2_with fail
    refine (hX.out _).mono ?_
    rintro _ w2 ⟨rfl, hb2⟩
    have hE := hidS (hB1.out.trans (hb2.mono hB1.out.size))
    clear hb2 hB1 hX h1 h2
    go_wp2_with fail
    go_ret
    exact ⟨by rw [e0.out]; rfl, hE.out⟩
theorem checkOfPart_err (p : Pk) (v : Value) (t : ByteArray) (w : World) (h1 : p.proto = 1) (ht : t.size ≤ 1000) :
    Calls Tryd.prog 74 #[.agg #[.int .i64 p.src, .int .i64 p.dst, .int .i64 p.proto, .int .i64 p.a, .int .i64 p.b, .int .i64 p.kind, .int .i64 p.flags, .int .i64 p.seq, .int .i64 p.ack, .string p.body], .iface 110 v, .string t] w fun e w' => e = .returned (.int .i64 (partC p t)) ∧ Below w.heap.size w w' := by
  have e0 : Hid (partC p t = checkAns t) := by show _ = _; unfold partC; rw [if_pos h1]
  have hX := hidS (fun W => implCheckOf_any t W (by unfold maxLen; omega))
  have hB1 := hidS ((Below.refl w.heap.size w).alloc (Nat.le_refl _) (.cells #[.int .i64 p.src, .int .i64 p.dst, .int .i64 p.proto, .int .i64 p.a, .int .i64 p.b, .int .i64 p.kind, .int .i64 p.flags, .int .i64 p.seq, .int .i64 p.ack, .string p.body] 30))
  have h2 := as_err_tcp v
  have h3 := as_err_udp v
  clear h1
  go_enter Tryd.func74, Tryd.ntmps74
  go_wp2_with fail
  refine (hX.out _).mono ?_
  rintro _ w2 ⟨rfl, hb2⟩
  have hE := hidS (hB1.out.trans (hb2.mono hB1.out.size))
  clear hb2 hB1 hX h2 h3
  go_wp2_with fail
  go_ret
  exact ⟨by rw [e0.out]; rfl, hE.out⟩
theorem checkOfPart_echo (p : Pk) (v : Value) (t : ByteArray) (w : World) (h1 : p.proto = 1) (ht : t.size ≤ 1000) :
    Calls Tryd.prog 74 #[.agg #[.int .i64 p.src, .int .i64 p.dst, .int .i64 p.proto, .int .i64 p.a, .int .i64 p.b, .int .i64 p.kind, .int .i64 p.flags, .int .i64 p.seq, .int .i64 p.ack, .string p.body], .iface 112 v, .string t] w fun e w' => e = .returned (.int .i64 (partC p t)) ∧ Below w.heap.size w w' := by
  have e0 : Hid (partC p t = checkAns t) := by show _ = _; unfold partC; rw [if_pos h1]
  have hX := hidS (fun W => implCheckOf_any t W (by unfold maxLen; omega))
  have hB1 := hidS ((Below.refl w.heap.size w).alloc (Nat.le_refl _) (.cells #[.int .i64 p.src, .int .i64 p.dst, .int .i64 p.proto, .int .i64 p.a, .int .i64 p.b, .int .i64 p.kind, .int .i64 p.flags, .int .i64 p.seq, .int .i64 p.ack, .string p.body] 30))
  have h2 := as_echo_tcp v
  have h3 := as_echo_udp v
  clear h1
  go_enter Tryd.func74, Tryd.ntmps74
  go_wp2_with fail
  refine (hX.out _).mono ?_
  rintro _ w2 ⟨rfl, hb2⟩
  have hE := hidS (hB1.out.trans (hb2.mono hB1.out.size))
  clear hb2 hB1 hX h2 h3
  go_wp2_with fail
  go_ret
  exact ⟨by rw [e0.out]; rfl, hE.out⟩
end Go.Proofs.YthfhbmiddillbagDoor
end

section
namespace Go.Proofs.YthfhbmiddillbagDoor
open Go.ChangeShapes Go.WideShapes Go.ChangeAt Go.RowKit
open Go.ChangeMaps (open_string shut_string)
set_option linter.unusedVariables false
set_option maxRecDepth 100000
set_option linter.unusedSimpArgs false

theorem partC_word (p : Pk) (t : ByteArray) : wordB (partC p t) = true := by
  unfold partC
  split
  · exact checkAns_word
  · split
    · rfl
    · exact checkAns_word
theorem ValsAt.nats {B : Nat} {ks : List Nat} {W : World} (h : ValsAt B (ks.map fun k : Nat => Value.int .i64 (k : Int)) W) : ∀ j, (hj : j < ks.length) → W.cell? ⟨B, j, none⟩ = some (.int .i64 (ks[j] : Int)) := fun j hj => by
  have := h.2 j (by simpa using hj)
  simpa using this
theorem cat_size2 (a b : ByteArray) : (catT [a, b]).size = a.size + b.size := by rw [cat2, ByteArray.size_append]
theorem store_new {w : World} {cs : Array Value} {t : TypeId} (l : List UInt8) (hl : cs.size = l.length) : Row8 w.heap.size l ((w.alloc (.cells cs t)).setCells w.heap.size 0 (cells8 l)) := by
  refine row8_set (fun j hj => ?_) (by simp)
  have h := heap_newG w (.cells cs t)
  exact ⟨by simp only [World.cell?, h]; simp [hl, hj], by simp only [World.frozen?, h]; simp⟩

set_option maxHeartbeats 4000000 in
theorem implBytes_gen (p : Pk) (T : TypeId) (val : Value) (fb : FuncId) (t : ByteArray) (k : Nat) (w : World) (h : rightB p = true) (ht : t.size ≤ 200) (hk : k ≤ 100)
    (hPT : ∀ W, Calls Tryd.prog 52 #[.agg #[.int .i64 p.src, .int .i64 p.dst, .int .i64 p.proto, .int .i64 p.a, .int .i64 p.b, .int .i64 p.kind, .int .i64 p.flags, .int .i64 p.seq, .int .i64 p.ack, .string p.body]] W fun e w' => e = .returned (.iface T val) ∧ Below W.heap.size W w')
    (hm1 : ∀ W, (method 297 T val "loop.example/g00542/impl.bytes").run Tryd.prog W = .ok (fb, val) W)
    (hc1 : ∀ W, (callFunc fb #[val]).run Tryd.prog W = .ok (.enter fb #[val]) W)
    (hB : ∀ W, Calls Tryd.prog fb #[val] W fun e w' => e = .returned (.string t) ∧ Below W.heap.size W w')
    (hCP : ∀ W, Calls Tryd.prog 74 #[.agg #[.int .i64 p.src, .int .i64 p.dst, .int .i64 p.proto, .int .i64 p.a, .int .i64 p.b, .int .i64 p.kind, .int .i64 p.flags, .int .i64 p.seq, .int .i64 p.ack, .string p.body], .iface T val, .string t] W fun e w' => e = .returned (.int .i64 (partC p t)) ∧ Below W.heap.size W w')
    (hCA : ∀ W, Calls Tryd.prog 54 #[.iface T val] W fun e w' => e = .returned (.int .i64 (k : Int)) ∧ Below W.heap.size W w') :
    Calls Tryd.prog 46 #[.agg #[.int .i64 p.src, .int .i64 p.dst, .int .i64 p.proto, .int .i64 p.a, .int .i64 p.b, .int .i64 p.kind, .int .i64 p.flags, .int .i64 p.seq, .int .i64 p.ack, .string p.body]] w fun e w' => e = .returned (.string ⟨(putAll (twoT (partC p t).toNat).data.toList (catT [headT p t.size (checkAns (headT p t.size 0)), t]).data.toList [k]).toArray⟩) ∧ Below w.heap.size w w' := by
  have hF := fine_of h
  have hwc := partC_word p t
  have hp1 : 0 ≤ p.proto := by rcases hF.proto with q | q | q <;> omega
  have hp2 : p.proto ≤ 255 := by rcases hF.proto with q | q | q <;> omega
  have hX := hidS (fun W => implRight_any p W (by have := hF.body; unfold maxLen; omega))
  have hH := hidS (fun W => headOf_x p t.size W hF.src hF.dst hp1 hp2 (by omega))
  have HPT := hidS hPT
  have HM1 := hidS hm1
  have HC1 := hidS hc1
  have HB := hidS hB
  have HCP := hidS hCP
  have HCA := hidS hCA
  clear hPT hm1 hc1 hB hCP hCA hF
  have HP := hidS (heap_newG w (.cells #[.int .i64 p.src, .int .i64 p.dst, .int .i64 p.proto, .int .i64 p.a, .int .i64 p.b, .int .i64 p.kind, .int .i64 p.flags, .int .i64 p.seq, .int .i64 p.ack, .string p.body] 30))
  have hB1 := hidS ((Below.refl w.heap.size w).alloc (Nat.le_refl _) (.cells #[.int .i64 p.src, .int .i64 p.dst, .int .i64 p.proto, .int .i64 p.a, .int .i64 p.b, .int .i64 p.kind, .int .i64 p.flags, .int .i64 p.seq, .int .i64 p.ack, .string p.body] 30))
  have h20 := headT_size p t.size (checkAns (headT p t.size 0))
  go_enter Tryd.func46, Tryd.ntmps46
  go_wp2_with fail
  refine (hX.out _).mono ?_
  rintro _ w2 ⟨rfl, hb2⟩
  rw [h]
  have hG := blk_later HP.out hb2
  have hL := hidS (hB1.out.trans (hb2.mono hB1.out.size))
  clear hB1 HP hb2 hX
  have c0 := blk_cell hG 0
  have c1 := blk_cell hG 1
  have c2 := blk_cell hG 2
  have c3 := blk_cell hG 3
  have c4 := blk_cell hG 4
  have c5 := blk_cell hG 5
  have c6 := blk_cell hG 6
  have c7 := blk_cell hG 7
  have c8 := blk_cell hG 8
  have c9 := blk_cell hG 9
  simp at c0 c1 c2 c3 c4 c5 c6 c7 c8 c9
  go_wp2_with fail
  refine (HPT.out _).mono ?_
  rintro _ w3 ⟨rfl, hb3⟩
  have hG3 := blk_later hG hb3
  have hL3 := hidS (hL.out.trans (hb3.mono hL.out.size))
  clear hG hL hb3 HPT c0 c1 c2 c3 c4 c5 c6 c7 c8 c9
  go_wp2_with fail
  rw [HM1.out]
  go_wp2_with fail
  rw [HC1.out, Oper.upon_enter]
  refine (HB.out _).mono ?_
  rintro _ w4 ⟨rfl, hb4⟩
  have hG4 := blk_later hG3 hb4
  have hL4 := hidS (hL3.out.trans (hb4.mono hL3.out.size))
  clear hG3 hL3 hb4 HM1 HC1 HB
  have c0 := blk_cell hG4 0
  have c1 := blk_cell hG4 1
  have c2 := blk_cell hG4 2
  have c3 := blk_cell hG4 3
  have c4 := blk_cell hG4 4
  have c5 := blk_cell hG4 5
  have c6 := blk_cell hG4 6
  have c7 := blk_cell hG4 7
  have c8 := blk_cell hG4 8
  have c9 := blk_cell hG4 9
  simp at c0 c1 c2 c3 c4 c5 c6 c7 c8 c9
  go_wp2_with fail
  refine (hH.out _).mono ?_
  rintro _ w5 ⟨rfl, hb5⟩
  have hG5 := blk_later hG4 hb5
  have hL5 := hidS (hL4.out.trans (hb5.mono hL4.out.size))
  clear hG4 hL4 hb5 hH c0 c1 c2 c3 c4 c5 c6 c7 c8 c9
  dsimp only
  iterate 4 (first | go_values | go_skip | go_guarded | go_step | go_upon | go_back)
  have hlen : (cells8 (headT p t.size (checkAns (headT p t.size 0))).data.toList).length = 20 := by rw [cells8, List.length_map]; exact head_len p t.size _
  have hsz : ((Tryd.prog).info? 99).map (·.size) = some (cells8 (headT p t.size (checkAns (headT p t.size 0))).data.toList).length := by rw [hlen]; kernel_rfl
  have hth : ∀ k, k = 20 → (w5.alloc (.cells #[.int .u8 0, .int .u8 0, .int .u8 0, .int .u8 0, .int .u8 0, .int .u8 0, .int .u8 0, .int .u8 0, .int .u8 0, .int .u8 0, .int .u8 0, .int .u8 0, .int .u8 0, .int .u8 0, .int .u8 0, .int .u8 0, .int .u8 0, .int .u8 0, .int .u8 0, .int .u8 0] 99)).there w5.heap.size 0 k := fun k hk j hj => by
    subst hk
    have h := heap_newG w5 (.cells #[.int .u8 0, .int .u8 0, .int .u8 0, .int .u8 0, .int .u8 0, .int .u8 0, .int .u8 0, .int .u8 0, .int .u8 0, .int .u8 0, .int .u8 0, .int .u8 0, .int .u8 0, .int .u8 0, .int .u8 0, .int .u8 0, .int .u8 0, .int .u8 0, .int .u8 0, .int .u8 0] 99)
    exact ⟨by simp only [World.cell?, h]; simp [hj], by simp only [World.frozen?, h]; simp⟩
  refine wpList_store_mid rfl 99 _ _ rfl w5.heap.size 0 (cells8 (headT p t.size (checkAns (headT p t.size 0))).data.toList).toArray rfl rfl (hth _ (by simpa using hlen)) (by simpa using hsz) (all_oneCell_toArray (fun v hv => by simp only [cells8, List.mem_map] at hv; obtain ⟨b, _, rfl⟩ := hv; rfl)) ?_
  have HR6 := hidS (store_new (w := w5) (cs := #[.int .u8 0, .int .u8 0, .int .u8 0, .int .u8 0, .int .u8 0, .int .u8 0, .int .u8 0, .int .u8 0, .int .u8 0, .int .u8 0, .int .u8 0, .int .u8 0, .int .u8 0, .int .u8 0, .int .u8 0, .int .u8 0, .int .u8 0, .int .u8 0, .int .u8 0, .int .u8 0]) (t := 99) (headT p t.size (checkAns (headT p t.size 0))).data.toList (by rw [head_len]; rfl))
  have HG6 := hidS ((World.heap_setCells_other (w5.alloc (.cells #[.int .u8 0, .int .u8 0, .int .u8 0, .int .u8 0, .int .u8 0, .int .u8 0, .int .u8 0, .int .u8 0, .int .u8 0, .int .u8 0, .int .u8 0, .int .u8 0, .int .u8 0, .int .u8 0, .int .u8 0, .int .u8 0, .int .u8 0, .int .u8 0, .int .u8 0, .int .u8 0] 99)) w5.heap.size 0 (cells8 (headT p t.size (checkAns (headT p t.size 0))).data.toList) (by have := blk_lt hG5; simp; omega) (by have := blk_lt hG5; omega)).trans (blk_alloc hG5 (.cells #[.int .u8 0, .int .u8 0, .int .u8 0, .int .u8 0, .int .u8 0, .int .u8 0, .int .u8 0, .int .u8 0, .int .u8 0, .int .u8 0, .int .u8 0, .int .u8 0, .int .u8 0, .int .u8 0, .int .u8 0, .int .u8 0, .int .u8 0, .int .u8 0, .int .u8 0, .int .u8 0] 99)))
  have HB6 := hidS (below_setCells (B := w.heap.size) (b := w5.heap.size) (by have := hL5.out.size; omega) (cells8 (headT p t.size (checkAns (headT p t.size 0))).data.toList) 0 _ (hL5.out.alloc hL5.out.size (.cells #[.int .u8 0, .int .u8 0, .int .u8 0, .int .u8 0, .int .u8 0, .int .u8 0, .int .u8 0, .int .u8 0, .int .u8 0, .int .u8 0, .int .u8 0, .int .u8 0, .int .u8 0, .int .u8 0, .int .u8 0, .int .u8 0, .int .u8 0, .int .u8 0, .int .u8 0, .int .u8 0] 99)))
  simp only [Act.put]
  clear hth hsz hlen hG5 hL5
  generalize (w5.alloc (.cells #[.int .u8 0, .int .u8 0, .int .u8 0, .int .u8 0, .int .u8 0, .int .u8 0, .int .u8 0, .int .u8 0, .int .u8 0, .int .u8 0, .int .u8 0, .int .u8 0, .int .u8 0, .int .u8 0, .int .u8 0, .int .u8 0, .int .u8 0, .int .u8 0, .int .u8 0, .int .u8 0] 99)).setCells w5.heap.size 0 (cells8 (headT p t.size (checkAns (headT p t.size 0))).data.toList) = w6 at HR6 HG6 HB6 ⊢
  generalize cells8 (headT p t.size (checkAns (headT p t.size 0))).data.toList = L6
  go_wp2_with fail
  refine grow_kinds 14 [.is (.slice (some ⟨w5.heap.size, 0, none⟩) 20 20), .is (.string (headT p t.size (checkAns (headT p t.size 0)))), .is (.string t), .vals [.string (headT p t.size (checkAns (headT p t.size 0))), .string t], .is (.string (catT [(headT p t.size (checkAns (headT p t.size 0))), t])), .is (.agg #[.int .i64 p.src, .int .i64 p.dst, .int .i64 p.proto, .int .i64 p.a, .int .i64 p.b, .int .i64 p.kind, .int .i64 p.flags, .int .i64 p.seq, .int .i64 p.ack, .string p.body]), .is (.iface T val), .is (.string t), .is (.int .i64 (partC p t)), .is (.iface T val), .is (.int .i64 (k : Int)), .vals [.int .i64 (k : Int)], .is (.string ⟨(putAll (twoT (partC p t).toNat).data.toList (catT [headT p t.size (checkAns (headT p t.size 0)), t]).data.toList [k]).toArray⟩), .is (.string ⟨(putAll (twoT (partC p t).toNat).data.toList (catT [headT p t.size (checkAns (headT p t.size 0)), t]).data.toList [k]).toArray⟩)] rfl (by kernel_rfl) (by kernel_rfl) ?steps ?fin
  case steps =>
    refine ⟨?_, ?_, ?_, ?_, ?_, ?_, ?_, ?_, ?_, ?_, ?_, ?_, ?_, ?_, trivial⟩
    · refine ⟨rfl, fun v W ρ hC kc kf ks ki kd => ?_⟩
      have t5 : ρ (.tmp 5) = .pointer (some ⟨w5.heap.size, 0, none⟩) := ki 5 (by decide)
      simp [execOp, go_sem, t5, kc]
      exact ⟨hC, Below.refl _ _, rfl⟩
    · refine ⟨rfl, fun v W ρ hC kc kf ks ki kd => ?_⟩
      have d0 : v 0 = .slice (some ⟨w5.heap.size, 0, none⟩) 20 20 := kd _ (Array.mem_of_getElem? (i := 0) rfl) rfl
      have t18 : ρ (.tmp 18) = v 0 := ks 0 18 (by decide) rfl
      rw [d0] at t18
      have hcv := BytesAt.conv 20 (HR6.out.later hC).bytes
      rw [head_len] at hcv
      have eh : (⟨(headT p t.size (checkAns (headT p t.size 0))).data.toList.toArray⟩ : ByteArray) = headT p t.size (checkAns (headT p t.size 0)) := by simp
      rw [eh] at hcv
      simp [execOp, go_sem, t18, hcv]
      exact ⟨hC, Below.refl _ _, rfl⟩
    · refine ⟨rfl, fun v W ρ hC kc kf ks ki kd => ?_⟩
      have t4 : ρ (.tmp 4) = .string t := ki 4 (by decide)
      simp [execOp, go_sem, t4]
      exact ⟨hC, Below.refl _ _, rfl⟩
    · refine ⟨rfl, fun v W ρ hC kc kf ks ki kd => ?_⟩
      have d1 : v 1 = .string (headT p t.size (checkAns (headT p t.size 0))) := kd _ (Array.mem_of_getElem? (i := 0) rfl) rfl
      have t19 : ρ (.tmp 19) = v 1 := ks 1 19 (by decide) rfl
      rw [d1] at t19
      have d2 : v 2 = .string t := kd _ (Array.mem_of_getElem? (i := 1) rfl) rfl
      have t20 : ρ (.tmp 20) = v 2 := ks 2 20 (by decide) rfl
      rw [d2] at t20
      simp [execOp, go_sem, t19, t20]
      exact ⟨hC.alloc hC.size _, (Below.refl _ _).alloc (Nat.le_refl _) _, W.heap.size, rfl, vals_at [.string (headT p t.size (checkAns (headT p t.size 0))), .string t] _⟩
    · refine ⟨rfl, fun v W ρ hC kc kf ks ki kd => ?_⟩
      obtain ⟨B3, e3, hB3⟩ : ∃ B, v 3 = .slice (some ⟨B, 0, none⟩) 2 2 ∧ ValsAt B [.string (headT p t.size (checkAns (headT p t.size 0))), .string t] W := kd _ (Array.mem_of_getElem? (i := 0) rfl) rfl
      have t21 : ρ (.tmp 21) = v 3 := ks 3 21 (by decide) rfl
      rw [e3] at t21
      simp [execOp, go_sem, t21, kf]
      exact Calls.mono (joinTexts_any B3 [(headT p t.size (checkAns (headT p t.size 0))), t] _ (ValsAt.strs (ts := [(headT p t.size (checkAns (headT p t.size 0))), t]) hB3) hB3.1 (by simp) (by simp; omega)) (fun e x h => ⟨_, h.1, hC.trans (h.2.mono hC.size), h.2, rfl⟩)
    · refine ⟨rfl, fun v W ρ hC kc kf ks ki kd => ?_⟩
      have t1 : ρ (.tmp 1) = .pointer (some ⟨w.heap.size, 0, none⟩) := ki 1 (by decide)
      have hp := blk_later HG6.out hC
      have c0 := blk_cell hp 0
      have c1 := blk_cell hp 1
      have c2 := blk_cell hp 2
      have c3 := blk_cell hp 3
      have c4 := blk_cell hp 4
      have c5 := blk_cell hp 5
      have c6 := blk_cell hp 6
      have c7 := blk_cell hp 7
      have c8 := blk_cell hp 8
      have c9 := blk_cell hp 9
      simp at c0 c1 c2 c3 c4 c5 c6 c7 c8 c9
      simp [execOp, go_sem, t1, c0, c1, c2, c3, c4, c5, c6, c7, c8, c9]
      exact ⟨hC, Below.refl _ _, rfl⟩
    · refine ⟨rfl, fun v W ρ hC kc kf ks ki kd => ?_⟩
      have t3 : ρ (.tmp 3) = .iface T val := ki 3 (by decide)
      simp [execOp, go_sem, t3]
      exact ⟨hC, Below.refl _ _, rfl⟩
    · refine ⟨rfl, fun v W ρ hC kc kf ks ki kd => ?_⟩
      have t4 : ρ (.tmp 4) = .string t := ki 4 (by decide)
      simp [execOp, go_sem, t4]
      exact ⟨hC, Below.refl _ _, rfl⟩
    · refine ⟨rfl, fun v W ρ hC kc kf ks ki kd => ?_⟩
      have d5 : v 5 = .agg #[.int .i64 p.src, .int .i64 p.dst, .int .i64 p.proto, .int .i64 p.a, .int .i64 p.b, .int .i64 p.kind, .int .i64 p.flags, .int .i64 p.seq, .int .i64 p.ack, .string p.body] := kd _ (Array.mem_of_getElem? (i := 0) rfl) rfl
      have t23 : ρ (.tmp 23) = v 5 := ks 5 23 (by decide) rfl
      rw [d5] at t23
      have d6 : v 6 = .iface T val := kd _ (Array.mem_of_getElem? (i := 1) rfl) rfl
      have t24 : ρ (.tmp 24) = v 6 := ks 6 24 (by decide) rfl
      rw [d6] at t24
      have d7 : v 7 = .string t := kd _ (Array.mem_of_getElem? (i := 2) rfl) rfl
      have t25 : ρ (.tmp 25) = v 7 := ks 7 25 (by decide) rfl
      rw [d7] at t25
      simp [execOp, go_sem, t23, t24, t25, kf]
      exact Calls.mono (HCP.out _) (fun e x h => ⟨_, h.1, hC.trans (h.2.mono hC.size), h.2, rfl⟩)
    · refine ⟨rfl, fun v W ρ hC kc kf ks ki kd => ?_⟩
      have t3 : ρ (.tmp 3) = .iface T val := ki 3 (by decide)
      simp [execOp, go_sem, t3]
      exact ⟨hC, Below.refl _ _, rfl⟩
    · refine ⟨rfl, fun v W ρ hC kc kf ks ki kd => ?_⟩
      have d9 : v 9 = .iface T val := kd _ (Array.mem_of_getElem? (i := 0) rfl) rfl
      have t27 : ρ (.tmp 27) = v 9 := ks 9 27 (by decide) rfl
      rw [d9] at t27
      simp [execOp, go_sem, t27, kf]
      exact Calls.mono (HCA.out _) (fun e x h => ⟨_, h.1, hC.trans (h.2.mono hC.size), h.2, rfl⟩)
    · refine ⟨rfl, fun v W ρ hC kc kf ks ki kd => ?_⟩
      have d10 : v 10 = .int .i64 (k : Int) := kd _ (Array.mem_of_getElem? (i := 0) rfl) rfl
      have t28 : ρ (.tmp 28) = v 10 := ks 10 28 (by decide) rfl
      rw [d10] at t28
      simp [execOp, go_sem, t28]
      exact ⟨hC.alloc hC.size _, (Below.refl _ _).alloc (Nat.le_refl _) _, W.heap.size, rfl, vals_at [.int .i64 (k : Int)] _⟩
    · refine ⟨rfl, fun v W ρ hC kc kf ks ki kd => ?_⟩
      have d4 : v 4 = .string (catT [(headT p t.size (checkAns (headT p t.size 0))), t]) := kd _ (Array.mem_of_getElem? (i := 0) rfl) rfl
      have t22 : ρ (.tmp 22) = v 4 := ks 4 22 (by decide) rfl
      rw [d4] at t22
      have d8 : v 8 = .int .i64 (partC p t) := kd _ (Array.mem_of_getElem? (i := 1) rfl) rfl
      have t26 : ρ (.tmp 26) = v 8 := ks 8 26 (by decide) rfl
      rw [d8] at t26
      obtain ⟨B11, e11, hB11⟩ : ∃ B, v 11 = .slice (some ⟨B, 0, none⟩) 1 1 ∧ ValsAt B [.int .i64 (k : Int)] W := kd _ (Array.mem_of_getElem? (i := 2) rfl) rfl
      have t29 : ρ (.tmp 29) = v 11 := ks 11 29 (by decide) rfl
      rw [e11] at t29
      simp [execOp, go_sem, t22, t26, t29, kf]
      exact Calls.mono (withWord_x (catT [headT p t.size (checkAns (headT p t.size 0)), t]) (partC p t) B11 1 [k] _ hwc (ValsAt.nats (ks := [k]) hB11) hB11.1 (by simp) (by simp; omega) (by rw [cat_size2, h20]; omega)) (fun e x h => ⟨_, h.1, hC.trans (h.2.mono hC.size), h.2, rfl⟩)
    · refine ⟨rfl, fun v W ρ hC kc kf ks ki kd => ?_⟩
      have d12 : v 12 = .string ⟨(putAll (twoT (partC p t).toNat).data.toList (catT [headT p t.size (checkAns (headT p t.size 0)), t]).data.toList [k]).toArray⟩ := kd _ (Array.mem_of_getElem? (i := 0) rfl) rfl
      have t30 : ρ (.tmp 30) = v 12 := ks 12 30 (by decide) rfl
      rw [d12] at t30
      simp [execOp, go_sem, t30]
      exact ⟨hC, Below.refl _ _, rfl⟩
  case fin =>
    intro v W hC hall
    have hL2 : v 13 = .string ⟨(putAll (twoT (partC p t).toNat).data.toList (catT [headT p t.size (checkAns (headT p t.size 0)), t]).data.toList [k]).toArray⟩ := hall 13 (by decide)
    simp [upto, Act.put]
    rw [hL2]
    clear hall hL2
    have hE := hidS (HB6.out.trans (hC.mono HB6.out.size))
    go_wp2
    go_ret
    exact ⟨rfl, hE.out⟩
end Go.Proofs.YthfhbmiddillbagDoor
end
