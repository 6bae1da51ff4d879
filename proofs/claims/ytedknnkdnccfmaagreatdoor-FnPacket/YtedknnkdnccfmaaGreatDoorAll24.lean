/- Proved here: impl.longText answers the four bytes of a number; all old memory stays (condition: the number is an address). · Proved here: a row of bytes that may be written, and what 'copy' of a string leaves of it (no program of its own). · Proved here: the law on regions that draw their order, where the last operation copies a string into a row of bytes that is known (no program of its own but its types). -/
import Derived.Test.YtedknnkdnccfmaaGreatDoorAll23
import Derived.Test.YtedknnkdnccfmaaGreatDoorAll6
import Derived.Test.YtedknnkdnccfmaaGreatDoorAll3
import Derived.Deep.Upon
section
namespace Go.Proofs.YtedknnkdnccfmaaGreatDoor
open Go.ChangeShapes Go.WideShapes Go.ChangeAt Go.RowKit
open Go.ChangeMaps (open_string shut_string)
set_option linter.unusedVariables false
set_option maxRecDepth 100000

theorem wordT_two {x : Int} (h : wordB x = true) : wordT x = twoT x.toNat := if_pos h
theorem implWord_x (x : Int) (w : World) (h : wordB x = true) :
    Calls Tryz.prog 90 #[.int .i64 x] w fun e w' => e = .returned (.string (twoT x.toNat)) ∧ Below w.heap.size w w' := by
  rw [← wordT_two h]; exact implWordText_any x w
theorem implWord_of {x : Int} (n : Nat) (w : World) (hx : x = (n : Int)) (hn : n ≤ 65535) :
    Calls Tryz.prog 90 #[.int .i64 x] w fun e w' => e = .returned (.string (twoT n)) ∧ Below w.heap.size w w' := by
  subst hx; exact implWord_x (n : Int) w (wordB_iff.2 ⟨by omega, by omega⟩)
theorem cat2 (a b : ByteArray) : catT [a, b] = a ++ b := ByteArray.ext (by simp [catT, catL])

set_option maxHeartbeats 1000000 in
theorem longText_x (x : Int) (w : World) (h : addrB x = true) :
    Calls Tryz.prog 91 #[.int .i64 x] w fun e w' => e = .returned (.string (fourT x.toNat)) ∧ Below w.heap.size w w' := by
  obtain ⟨n, rfl⟩ : ∃ n : Nat, x = n := ⟨x.toNat, by have := addrB_iff.1 h; omega⟩
  have hn : n ≤ 4294967295 := by have := (addrB_iff.1 h).2; omega
  have hlow := i64_low16 n (by omega)
  clear h
  go_enter Tryz.func91, Tryz.ntmps91
  go_wp2_with fail
  refine (implWord_of (n / 65536) _ (by omega) (by omega)).mono ?_
  rintro _ w1 ⟨rfl, hb1⟩
  go_wp2_with fail
  refine (implWord_of (n % 65536) _ (by omega) (by omega)).mono ?_
  rintro _ w2 ⟨rfl, hb2⟩
  have hL := hidS (hb1.trans (hb2.mono hb1.size))
  clear hb1 hb2
  have hv := vals_at (W := w2) [.string (twoT (n / 65536)), .string (twoT (n % 65536))] 9
  have hA := hidS (hL.out.alloc hL.out.size (.cells #[.string (twoT (n / 65536)), .string (twoT (n % 65536))] 9))
  have hj := joinTexts_any w2.heap.size [twoT (n / 65536), twoT (n % 65536)] _ (ValsAt.strs (ts := [twoT (n / 65536), twoT (n % 65536)]) hv) hv.1 (by simp) (by simp [twoT_size])
  have HJ := hidS hj
  clear hv hj hL
  go_wp2_with fail
  refine HJ.out.mono ?_
  rintro _ w3 ⟨rfl, hb3⟩
  have hE := hidS (hA.out.trans (hb3.mono hA.out.size))
  rw [cat2]
  clear hb3 hA HJ
  go_wp2_with fail
  go_ret
  exact ⟨rfl, hE.out⟩
end Go.Proofs.YtedknnkdnccfmaaGreatDoor
end

section
namespace Go.Proofs.YtedknnkdnccfmaaGreatDoor
open Go.ChangeShapes Go.WideShapes Go.ChangeAt Go.RowKit
set_option linter.unusedVariables false

/-- a row of bytes that may be written -/
def Row8 (g : Nat) (l : List UInt8) (W : World) : Prop := g < W.heap.size ∧ ∀ j, (h : j < l.length) → W.cell? ⟨g, j, none⟩ = some (.int .u8 (l[j].toNat : Int)) ∧ W.frozen? ⟨g, j, none⟩ = false
theorem Row8.later {g : Nat} {l : List UInt8} {W W' : World} (h : Row8 g l W) (hb : Below W.heap.size W W') : Row8 g l W' := ⟨Nat.lt_of_lt_of_le h.1 hb.size, fun j hj => ⟨(hb.cell (p := ⟨g, j, none⟩) h.1).trans (h.2 j hj).1, (hb.frozen (p := ⟨g, j, none⟩) h.1).trans (h.2 j hj).2⟩⟩
theorem Row8.bytes {g : Nat} {l : List UInt8} {W : World} (h : Row8 g l W) : BytesAt g l W := ⟨h.1, fun j hj => (h.2 j hj).1⟩
/-- some bytes over others -/
def over (l : List UInt8) (o : Nat) (m : List UInt8) : List UInt8 := l.take o ++ m ++ l.drop (o + m.length)
theorem over_length {l : List UInt8} {o : Nat} {m : List UInt8} (h : o + m.length ≤ l.length) : (over l o m).length = l.length := by simp [over]; omega
theorem over_in {l : List UInt8} {o : Nat} {m : List UInt8} (h : o + m.length ≤ l.length) (j : Nat) (hj : j < m.length) : (over l o m)[o + j]'(by rw [over_length h]; omega) = m[j] := by
  simp only [over]
  rw [List.getElem_append_left (by simp; omega), List.getElem_append_right (by simp; omega)]
  have e : o + j - (l.take o).length = j := by simp; omega
  simp only [e]
theorem over_out {l : List UInt8} {o : Nat} {m : List UInt8} (h : o + m.length ≤ l.length) (j : Nat) (hj : j < l.length) (hd : j < o ∨ o + m.length ≤ j) : (over l o m)[j]'(by rw [over_length h]; exact hj) = l[j] := by
  simp only [over]
  rcases hd with hd | hd
  · rw [List.getElem_append_left (by simp; omega), List.getElem_append_left (by simp; omega)]
    simp
  · rw [List.getElem_append_right (by simp; omega)]
    simp only [List.getElem_drop]
    congr 1
    simp; omega
theorem getv_cast {l : List UInt8} {i j : Nat} (hi : i < l.length) (e : i = j) : l[i] = l[j]'(e ▸ hi) := by subst e; rfl

/-- 'copy(row[o:], s)' -/
theorem Row8.copy {g : Nat} {l : List UInt8} {W : World} (h : Row8 g l W) (ty : TypeId) (o dLen dCap : Nat) (s : ByteArray) (hle : s.size ≤ dLen) (hfit : o + s.size ≤ l.length) :
    ∃ W', (Builtin.copy_ #[22, 9] ty #[.slice (some ⟨g, o, none⟩) dLen dCap, .string s]).run Tryz.prog W = .ok (.int .i64 (s.size : Int)) W' ∧ Row8 g (over l o s.data.toList) W' ∧
      (∀ B a, B ≤ g → Below B a W → Below B a W') ∧ (∀ b, b < W.heap.size → b ≠ g → W'.heap[b]? = W.heap[b]?) := by
  have hsl : s.data.toList.length = s.size := by simp
  have hml : (s.data.toList.map fun x => Value.int .u8 (x.toNat : Int)).length = s.size := by rw [List.length_map, hsl]
  have hcell : ∀ j, j < s.size → W.cell? ⟨g, o + j, none⟩ = some (.int .u8 (l[o + j]!.toNat : Int)) := fun j hj => by
    rw [(h.2 (o + j) (by omega)).1, getElem!_pos l (o + j) (by omega)]
  have hr := run_copy_string (P := Tryz.prog) W 22 9 ty 5 g o dLen dCap s Tryz.underlying22 Tryz.sizeU8 hle
    (fun j hj => by rw [hcell j hj]; rfl) (fun j hj => (h.2 (o + j) (by omega)).2)
  refine ⟨_, hr, ⟨?_, fun j hj => ?_⟩, fun B a hB hb => below_setCells hB _ _ _ hb, fun b hb hne => World.heap_setCells_other W g o _ hb hne⟩
  · exact Nat.lt_of_lt_of_le h.1 (below_setCells (B := g) (Nat.le_refl g) _ _ _ (Below.refl g W)).size
  · rw [over_length (by rw [hsl]; exact hfit)] at hj
    refine ⟨?_, (World.frozen?_setCells g _ o W _).trans (h.2 j hj).2⟩
    by_cases hd : o ≤ j ∧ j < o + s.size
    · obtain ⟨k, rfl⟩ : ∃ k, j = o + k := ⟨j - o, by omega⟩
      have hk : k < s.size := by omega
      rw [World.cell?_setCells_in g _ o W (fun i hi => by rw [hcell i (by rw [← hml]; exact hi)]; rfl) k (by rw [hml]; exact hk)]
      rw [over_in (by rw [hsl]; exact hfit) k (by rw [hsl]; exact hk)]
      simp
    · rw [World.cell?_setCells_out g _ o W ⟨g, j, none⟩ (fun _ _ => by rw [hml]; show j < o ∨ o + s.size ≤ j; omega), (h.2 j hj).1]
      rw [over_out (by rw [hsl]; exact hfit) j hj (by rw [hsl]; omega)]
end Go.Proofs.YtedknnkdnccfmaaGreatDoor
end

section
namespace Go.Proofs.YtedknnkdnccfmaaGreatDoor
open Go.ChangeShapes Go.WideShapes Go.ChangeAt Go.RowKit
set_option linter.unusedVariables false


/-- 'copy(row[o:], s)', as much of s as the row has room for -/
theorem Row8.copyc {g : Nat} {l : List UInt8} {W : World} (h : Row8 g l W) (ty : TypeId) (o dLen dCap : Nat) (s : ByteArray) (hfit : o + dLen = l.length) :
    ∃ W', (Builtin.copy_ #[22, 9] ty #[.slice (some ⟨g, o, none⟩) dLen dCap, .string s]).run Tryz.prog W = .ok (.int .i64 (Nat.min s.size dLen : Int)) W' ∧ Row8 g (over l o (s.data.toList.take dLen)) W' ∧
      (∀ B a, B ≤ g → Below B a W → Below B a W') ∧ (∀ b, b < W.heap.size → b ≠ g → W'.heap[b]? = W.heap[b]?) := by
  have hsl : s.data.toList.length = s.size := by simp
  by_cases hle : s.size ≤ dLen
  · have := h.copy ty o dLen dCap s hle (by omega)
    rw [List.take_of_length_le (by rw [hsl]; exact hle), show Nat.min s.size dLen = s.size from Nat.min_eq_left hle]
    exact this
  · have hmin : Nat.min s.size dLen = dLen := Nat.min_eq_right (by omega)
    have hel : (s.data.toList.take dLen).length = dLen := by rw [List.length_take, hsl]; omega
    obtain ⟨W', h1, h2, h3, h4⟩ := h.copy ty o dLen dCap ⟨(s.data.toList.take dLen).toArray⟩ (by show (s.data.toList.take dLen).toArray.size ≤ dLen; simp; omega) (by show o + (s.data.toList.take dLen).toArray.size ≤ l.length; simp; omega)
    have hsz : (⟨(s.data.toList.take dLen).toArray⟩ : ByteArray).size = dLen := by show (s.data.toList.take dLen).toArray.size = dLen; simpa using hel
    refine ⟨W', ?_, by simpa using h2, h3, h4⟩
    rw [hmin]
    rw [hsz] at h1
    rw [← h1]
    simp [Builtin.copy_, run_underlying Tryz.underlying22, Builtin.lenOf, Builtin.firstCells, hmin, hsz, List.map_take, List.take_take]

section
variable {ops : Array Oper} {a0 : Act} {Q : Exit → Act → World → Prop}
theorem grow_copy {id : Nat} {w0 : World} (m : Nat) (last : Oper) (ks : List Kd) (jx jy : Nat) (dx dy : Tmp) (g off dLen dCap : Nat) (s : ByteArray) (l : List UInt8)
    (hsz : ops.size = m + 1) (hl : ops[m]? = some last) (hlg : last.guard = none) (hlB : lastB ops m = true) (hm : (Tryz.prog).follows .mixedOrders = true) (hT : tidyB ops a0.tmps.size = true)
    (ho : last.op = Op.call { callee := Callee.builtin Builtin.copy, args := #[.tmp dx, .tmp dy], argTypes := #[22, 9] }) (hx : (ops[jx]?).bind (·.dst) = some dx) (hy : (ops[jy]?).bind (·.dst) = some dy) (hjx : jx < m) (hjy : jy < m)
    (hkx : ks.getD jx .any = .is (.slice (some ⟨g, off, none⟩) dLen dCap)) (hky : ks.getD jy .any = .is (.string s)) (hrow : Row8 g l w0) (hle : s.size ≤ dLen) (hfit : off + s.size ≤ l.length)
    (hstep : StepsFrom (StepU Tryz.prog ops (fun W => Below w0.heap.size w0 W) (fun w w' => Below w.heap.size w w') (kdOf ks) a0) 0 (ops.toList.take m))
    (hend : ∀ (v : Nat → Value) (W : World), (∀ B, B ≤ g → Below B w0 W) → (∀ b, b < w0.heap.size → b ≠ g → W.heap[b]? = w0.heap[b]?) → Row8 g (over l off s.data.toList) W → (∀ i x, i < m → ks.getD i .any = .is x → v i = x) → Q .normal ((upto ops v a0 m).put last.dst (.int .i64 (s.size : Int))) W) :
    (Code.region id ops true).wp Tryz.prog Q a0 w0 := by
  refine grow_store m last ks hsz hl hlg hlB hm hT hstep (fun v w hC hall => ?_)
  have T := tidy_of hT
  have hU := InF.upto (v := v) T m (by omega)
  have hxk := hall jx hjx
  have hyk := hall jy hjy
  unfold kdOf at hxk hyk
  rw [hkx] at hxk
  rw [hky] at hyk
  have e1 : v jx = .slice (some ⟨g, off, none⟩) dLen dCap := hxk
  have e2 : v jy = .string s := hyk
  have ev : ∀ j d, j < m → (ops[j]?).bind (·.dst) = some d → (upto ops v a0 m).eval (.tmp d) = v j := fun j d hj hjd => by
    obtain ⟨oj, hoj, hdj⟩ := Option.bind_eq_some_iff.1 hjd
    simp only [Act.eval, Array.getD_eq_getD_getElem?, hU.done j oj d hoj hdj hj, Option.getD_some]
  obtain ⟨W', hrun, hrow', hbel, hoth⟩ := (hrow.later hC).copy last.type off dLen dCap s hle hfit
  have ex := (ev jx dx hjx hx).trans e1
  have ey := (ev jy dy hjy hy).trans e2
  unfold Oper.wp
  simp [execOp, ho, resolve, invoke, builtin, ex, ey, hrun, Result.andThen]
  refine hend v W' (fun B hB => hbel B w0 hB (hC.mono (by have := hrow.1; omega))) (fun b hb hne => (hoth b (Nat.lt_of_lt_of_le hb hC.size) hne).trans (hC.block b hb)) hrow' (fun i x hi hk => ?_)
  have := hall i hi
  unfold kdOf at this
  rw [hk] at this
  exact this
theorem grow_copyc {id : Nat} {w0 : World} (m : Nat) (last : Oper) (ks : List Kd) (jx jy : Nat) (dx dy : Tmp) (g off dLen dCap : Nat) (s : ByteArray) (l : List UInt8)
    (hsz : ops.size = m + 1) (hl : ops[m]? = some last) (hlg : last.guard = none) (hlB : lastB ops m = true) (hm : (Tryz.prog).follows .mixedOrders = true) (hT : tidyB ops a0.tmps.size = true)
    (ho : last.op = Op.call { callee := Callee.builtin Builtin.copy, args := #[.tmp dx, .tmp dy], argTypes := #[22, 9] }) (hx : (ops[jx]?).bind (·.dst) = some dx) (hy : (ops[jy]?).bind (·.dst) = some dy) (hjx : jx < m) (hjy : jy < m)
    (hkx : ks.getD jx .any = .is (.slice (some ⟨g, off, none⟩) dLen dCap)) (hky : ks.getD jy .any = .is (.string s)) (hrow : Row8 g l w0) (hfit : off + dLen = l.length)
    (hstep : StepsFrom (StepU Tryz.prog ops (fun W => Below w0.heap.size w0 W) (fun w w' => Below w.heap.size w w') (kdOf ks) a0) 0 (ops.toList.take m))
    (hend : ∀ (v : Nat → Value) (W : World), (∀ B, B ≤ g → Below B w0 W) → (∀ b, b < w0.heap.size → b ≠ g → W.heap[b]? = w0.heap[b]?) → Row8 g (over l off (s.data.toList.take dLen)) W → (∀ i x, i < m → ks.getD i .any = .is x → v i = x) → Q .normal ((upto ops v a0 m).put last.dst (.int .i64 (Nat.min s.size dLen : Int))) W) :
    (Code.region id ops true).wp Tryz.prog Q a0 w0 := by
  refine grow_store m last ks hsz hl hlg hlB hm hT hstep (fun v w hC hall => ?_)
  have T := tidy_of hT
  have hU := InF.upto (v := v) T m (by omega)
  have hxk := hall jx hjx
  have hyk := hall jy hjy
  unfold kdOf at hxk hyk
  rw [hkx] at hxk
  rw [hky] at hyk
  have e1 : v jx = .slice (some ⟨g, off, none⟩) dLen dCap := hxk
  have e2 : v jy = .string s := hyk
  have ev : ∀ j d, j < m → (ops[j]?).bind (·.dst) = some d → (upto ops v a0 m).eval (.tmp d) = v j := fun j d hj hjd => by
    obtain ⟨oj, hoj, hdj⟩ := Option.bind_eq_some_iff.1 hjd
    simp only [Act.eval, Array.getD_eq_getD_getElem?, hU.done j oj d hoj hdj hj, Option.getD_some]
  obtain ⟨W', hrun, hrow', hbel, hoth⟩ := (hrow.later hC).copyc last.type off dLen dCap s hfit
  have ex := (ev jx dx hjx hx).trans e1
  have ey := (ev jy dy hjy hy).trans e2
  unfold Oper.wp
  simp [execOp, ho, resolve, invoke, builtin, ex, ey, hrun, Result.andThen]
  refine hend v W' (fun B hB => hbel B w0 hB (hC.mono (by have := hrow.1; omega))) (fun b hb hne => (hoth b (Nat.lt_of_lt_of_le hb hC.size) hne).trans (hC.block b hb)) hrow' (fun i x hi hk => ?_)
  have := hall i hi
  unfold kdOf at this
  rw [hk] at this
  exact this
end
end Go.Proofs.YtedknnkdnccfmaaGreatDoor
end
