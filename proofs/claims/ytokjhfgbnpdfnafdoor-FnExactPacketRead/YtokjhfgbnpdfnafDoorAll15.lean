/- Proved here: the law on regions that draw their order, where the last operation copies a string into a row of bytes that is known (no program of its own but its types). · Proved here: small facts on a packet that lies in a block (no program of its own). · Proved here: a literal slice of bytes, turned into a string, is these bytes (a bridge; no program of its own). -/
import Derived.Test.YtokjhfgbnpdfnafDoorAll14
import Derived.Test.YtokjhfgbnpdfnafDoorPacketMath
import Derived.Test.YtokjhfgbnpdfnafDoorBlk
import Derived.Test.YtokjhfgbnpdfnafDoorGrow
section
namespace Go.Proofs.YtokjhfgbnpdfnafDoor
open Go.ChangeShapes Go.WideShapes Go.ChangeAt Go.RowKit
set_option linter.unusedVariables false


/-- 'copy(row[o:], s)', as much of s as the row has room for -/
theorem Row8.copyc {g : Nat} {l : List UInt8} {W : World} (h : Row8 g l W) (ty : TypeId) (o dLen dCap : Nat) (s : ByteArray) (hfit : o + dLen = l.length) :
    ∃ W', (Builtin.copy_ #[60, 9] ty #[.slice (some ⟨g, o, none⟩) dLen dCap, .string s]).run Tryd.prog W = .ok (.int .i64 (Nat.min s.size dLen : Int)) W' ∧ Row8 g (over l o (s.data.toList.take dLen)) W' ∧
      (∀ B a, B ≤ g → Below B a W → Below B a W') ∧ (∀ b, b < W.heap.size → b ≠ g → W'.heap[b]? = W.heap[b]?) := by
  have hsl : s.data.toList.length = s.size := by simp
  by_cases hle : s.size ≤ dLen
  · have := h.copy ty o dLen dCap s hle (by omega)
    rw [List.take_of_length_le (by rw [hsl]; exact hle), show Nat.min s.size dLen = s.size from Nat.min_eq_left hle]
    exact this
  · have hmin : Nat.min s.size dLen = dLen := Nat.min_eq_right (by omega)
    have hel : (s.data.toList.take dLen).length = dLen := by rw [List.length_take, hsl]; omega
    obtain ⟨W', h1, h2, h3, h4⟩ := h.copy ty o dLen dCap ⟨(s.data.toList.take dLen).toArray⟩ (by show (s.data.toList.take dLen).toArray.size ≤ dLen; simp; omega) (by show o + (s.data.toList.take dLen).toArray.size ≤ l.length; simp; omega)
    have hsz : (⟨(s.data.toList.take dLen).toArray⟩ : ByteArray).size = dLen := by show (s.data.toList.take dLen).toArray.size = dLen; simpa using hel
    refine ⟨W', ?_, by simpa using h2, h3, h4⟩
    rw [hmin]
    rw [hsz] at h1
    rw [← h1]
    simp [Builtin.copy_, run_underlying Tryd.underlying60, Builtin.lenOf, Builtin.firstCells, hmin, hsz, List.map_take, List.take_take]

section
variable {ops : Array Oper} {a0 : Act} {Q : Exit → Act → World → Prop}
theorem grow_copy {id : Nat} {w0 : World} (m : Nat) (last : Oper) (ks : List Kd) (jx jy : Nat) (dx dy : Tmp) (g off dLen dCap : Nat) (s : ByteArray) (l : List UInt8)
    (hsz : ops.size = m + 1) (hl : ops[m]? = some last) (hlg : last.guard = none) (hlB : lastB ops m = true) (hm : (Tryd.prog).follows .mixedOrders = true) (hT : tidyB ops a0.tmps.size = true)
    (ho : last.op = Op.call { callee := Callee.builtin Builtin.copy, args := #[.tmp dx, .tmp dy], argTypes := #[60, 9] }) (hx : (ops[jx]?).bind (·.dst) = some dx) (hy : (ops[jy]?).bind (·.dst) = some dy) (hjx : jx < m) (hjy : jy < m)
    (hkx : ks.getD jx .any = .is (.slice (some ⟨g, off, none⟩) dLen dCap)) (hky : ks.getD jy .any = .is (.string s)) (hrow : Row8 g l w0) (hle : s.size ≤ dLen) (hfit : off + s.size ≤ l.length)
    (hstep : StepsFrom (StepU Tryd.prog ops (fun W => Below w0.heap.size w0 W) (fun w w' => Below w.heap.size w w') (kdOf ks) a0) 0 (ops.toList.take m))
    (hend : ∀ (v : Nat → Value) (W : World), (∀ B, B ≤ g → Below B w0 W) → (∀ b, b < w0.heap.size → b ≠ g → W.heap[b]? = w0.heap[b]?) → Row8 g (over l off s.data.toList) W → (∀ i x, i < m → ks.getD i .any = .is x → v i = x) → Q .normal ((upto ops v a0 m).put last.dst (.int .i64 (s.size : Int))) W) :
    (Code.region id ops true).wp Tryd.prog Q a0 w0 := by
  refine grow_store m last ks hsz hl hlg hlB hm hT hstep (fun v w hC hall => ?_)
  have T := tidy_of hT
  have hU := InF.upto (v := v) T m (by omega)
  have hxk := hall jx hjx
  have hyk := hall jy hjy
  unfold kdOf at hxk hyk
  rw [hkx] at hxk
  rw [hky] at hyk
  have e1 : v jx = .slice (some ⟨g, off, none⟩) dLen dCap := hxk
  have e2 : v jy = .string s := hyk
  have ev : ∀ j d, j < m → (ops[j]?).bind (·.dst) = some d → (upto ops v a0 m).eval (.tmp d) = v j := fun j d hj hjd => by
    obtain ⟨oj, hoj, hdj⟩ := Option.bind_eq_some_iff.1 hjd
    simp only [Act.eval, Array.getD_eq_getD_getElem?, hU.done j oj d hoj hdj hj, Option.getD_some]
  obtain ⟨W', hrun, hrow', hbel, hoth⟩ := (hrow.later hC).copy last.type off dLen dCap s hle hfit
  have ex := (ev jx dx hjx hx).trans e1
  have ey := (ev jy dy hjy hy).trans e2
  unfold Oper.wp
  simp [execOp, ho, resolve, invoke, builtin, ex, ey, hrun, Result.andThen]
  refine hend v W' (fun B hB => hbel B w0 hB (hC.mono (by have := hrow.1; omega))) (fun b hb hne => (hoth b (Nat.lt_of_lt_of_le hb hC.size) hne).trans (hC.block b hb)) hrow' (fun i x hi hk => ?_)
  have := hall i hi
  unfold kdOf at this
  rw [hk] at this
  exact this
theorem grow_copyc {id : Nat} {w0 : World} (m : Nat) (last : Oper) (ks : List Kd) (jx jy : Nat) (dx dy : Tmp) (g off dLen dCap : Nat) (s : ByteArray) (l : List UInt8)
    (hsz : ops.size = m + 1) (hl : ops[m]? = some last) (hlg : last.guard = none) (hlB : lastB ops m = true) (hm : (Tryd.prog).follows .mixedOrders = true) (hT : tidyB ops a0.tmps.size = true)
    (ho : last.op = Op.call { callee := Callee.builtin Builtin.copy, args := #[.tmp dx, .tmp dy], argTypes := #[60, 9] }) (hx : (ops[jx]?).bind (·.dst) = some dx) (hy : (ops[jy]?).bind (·.dst) = some dy) (hjx : jx < m) (hjy : jy < m)
    (hkx : ks.getD jx .any = .is (.slice (some ⟨g, off, none⟩) dLen dCap)) (hky : ks.getD jy .any = .is (.string s)) (hrow : Row8 g l w0) (hfit : off + dLen = l.length)
    (hstep : StepsFrom (StepU Tryd.prog ops (fun W => Below w0.heap.size w0 W) (fun w w' => Below w.heap.size w w') (kdOf ks) a0) 0 (ops.toList.take m))
    (hend : ∀ (v : Nat → Value) (W : World), (∀ B, B ≤ g → Below B w0 W) → (∀ b, b < w0.heap.size → b ≠ g → W.heap[b]? = w0.heap[b]?) → Row8 g (over l off (s.data.toList.take dLen)) W → (∀ i x, i < m → ks.getD i .any = .is x → v i = x) → Q .normal ((upto ops v a0 m).put last.dst (.int .i64 (Nat.min s.size dLen : Int))) W) :
    (Code.region id ops true).wp Tryd.prog Q a0 w0 := by
  refine grow_store m last ks hsz hl hlg hlB hm hT hstep (fun v w hC hall => ?_)
  have T := tidy_of hT
  have hU := InF.upto (v := v) T m (by omega)
  have hxk := hall jx hjx
  have hyk := hall jy hjy
  unfold kdOf at hxk hyk
  rw [hkx] at hxk
  rw [hky] at hyk
  have e1 : v jx = .slice (some ⟨g, off, none⟩) dLen dCap := hxk
  have e2 : v jy = .string s := hyk
  have ev : ∀ j d, j < m → (ops[j]?).bind (·.dst) = some d → (upto ops v a0 m).eval (.tmp d) = v j := fun j d hj hjd => by
    obtain ⟨oj, hoj, hdj⟩ := Option.bind_eq_some_iff.1 hjd
    simp only [Act.eval, Array.getD_eq_getD_getElem?, hU.done j oj d hoj hdj hj, Option.getD_some]
  obtain ⟨W', hrun, hrow', hbel, hoth⟩ := (hrow.later hC).copyc last.type off dLen dCap s hfit
  have ex := (ev jx dx hjx hx).trans e1
  have ey := (ev jy dy hjy hy).trans e2
  unfold Oper.wp
  simp [execOp, ho, resolve, invoke, builtin, ex, ey, hrun, Result.andThen]
  refine hend v W' (fun B hB => hbel B w0 hB (hC.mono (by have := hrow.1; omega))) (fun b hb hne => (hoth b (Nat.lt_of_lt_of_le hb hC.size) hne).trans (hC.block b hb)) hrow' (fun i x hi hk => ?_)
  have := hall i hi
  unfold kdOf at this
  rw [hk] at this
  exact this
end
end Go.Proofs.YtokjhfgbnpdfnafDoor
end

section
namespace Go.Proofs.YtokjhfgbnpdfnafDoor
open Go.ChangeShapes Go.WideShapes Go.ChangeAt Go.RowKit
set_option linter.unusedVariables false

/-- a packet that lies in a block -/
def PkAt (g : Nat) (p : Pk) (W : World) : Prop := W.cell? ⟨g, 0, none⟩ = some (.int .i64 p.src) ∧ W.cell? ⟨g, 1, none⟩ = some (.int .i64 p.dst) ∧ W.cell? ⟨g, 2, none⟩ = some (.int .i64 p.proto) ∧ W.cell? ⟨g, 3, none⟩ = some (.int .i64 p.a) ∧ W.cell? ⟨g, 4, none⟩ = some (.int .i64 p.b) ∧
  W.cell? ⟨g, 5, none⟩ = some (.int .i64 p.kind) ∧ W.cell? ⟨g, 6, none⟩ = some (.int .i64 p.flags) ∧ W.cell? ⟨g, 7, none⟩ = some (.int .i64 p.seq) ∧ W.cell? ⟨g, 8, none⟩ = some (.int .i64 p.ack) ∧ W.cell? ⟨g, 9, none⟩ = some (.string p.body)
theorem PkAt.lt {g : Nat} {p : Pk} {W : World} (h : PkAt g p W) : g < W.heap.size := World.block_lt_of_cell? W ⟨g, 0, none⟩ h.1
theorem PkAt.later {g : Nat} {p : Pk} {W W' : World} (h : PkAt g p W) (hb : Below W.heap.size W W') : PkAt g p W' := by
  have hl := h.lt
  obtain ⟨h0, h1, h2, h3, h4, h5, h6, h7, h8, h9⟩ := h
  have k : ∀ o, W'.cell? ⟨g, o, none⟩ = W.cell? ⟨g, o, none⟩ := fun o => hb.cell (p := ⟨g, o, none⟩) hl
  exact ⟨(k 0).trans h0, (k 1).trans h1, (k 2).trans h2, (k 3).trans h3, (k 4).trans h4, (k 5).trans h5, (k 6).trans h6, (k 7).trans h7, (k 8).trans h8, (k 9).trans h9⟩
theorem PkAt.new (p : Pk) (W : World) : PkAt W.heap.size p (W.alloc (.cells #[.int .i64 p.src, .int .i64 p.dst, .int .i64 p.proto, .int .i64 p.a, .int .i64 p.b, .int .i64 p.kind, .int .i64 p.flags, .int .i64 p.seq, .int .i64 p.ack, .string p.body] 23)) := by
  simp [PkAt]

end Go.Proofs.YtokjhfgbnpdfnafDoor
end

section
namespace Go.Proofs.YtokjhfgbnpdfnafDoor
open Go.ChangeShapes Go.WideShapes Go.ChangeAt Go.RowKit
set_option linter.unusedVariables false

theorem BytesAt.conv {B : Nat} {l : List UInt8} {W : World} (cap : Nat) (h : BytesAt B l W) : (convert 60 9 (.slice (some ⟨B, 0, none⟩) l.length cap)).run Tryd.prog W = .ok (.string ⟨l.toArray⟩) W :=
  run_convert_bytes_back (P := Tryd.prog) W 60 9 5 ⟨B, 0, none⟩ cap l Tryd.underlying60 Tryd.underlying5 Tryd.underlying9 (fun j hj => by rw [Addr.add_lit, Nat.zero_add]; exact h.2 j hj)
/-- numbers as bytes -/
def rowL (xs : List Int) : List UInt8 := xs.map fun x => UInt8.ofNat x.toNat
def rowT (xs : List Int) : ByteArray := ⟨(rowL xs).toArray⟩
theorem rowT_size (xs : List Int) : (rowT xs).size = xs.length := by show (rowL xs).toArray.size = _; simp [rowL]
theorem row_at {W : World} (xs : List Int) (h : ∀ x ∈ xs, 0 ≤ x ∧ x ≤ 255) : BytesAt W.heap.size (rowL xs) (W.alloc (.cells (xs.map fun x => Value.int .u8 x).toArray 5)) := by
  refine ⟨by simp, fun j hj => ?_⟩
  have hj' : j < xs.length := by simpa [rowL] using hj
  have hx := h xs[j] (List.getElem_mem hj')
  have e : (((rowL xs)[j]).toNat : Int) = xs[j] := by simp [rowL]; omega
  rw [e]
  simp [hj']
end Go.Proofs.YtokjhfgbnpdfnafDoor
end
