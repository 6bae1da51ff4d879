/- Proved here: a region whose cases go on alike (a bridge; no program of its own). · Proved here: impl.isEcho answers whether a Kind is an ask or a reply, and leaves memory alone (no conditions). · Proved here: two cells of a new block (no program of its own). · Proved here: impl.TupleRight answers whether a tuple is right; all old memory stays (no conditions). · Proved here: impl.joinTexts of two texts returns the one followed by the other, and leaves all old memory alone (condition: the list of parts has these two strings, together of at most 2^40 bytes). -/
import Derived.Test.YtedknnkdnccfmaaGreatDoorGrow
import Derived.Test.YtedknnkdnccfmaaGreatDoorTupMath
import Derived.Test.YtedknnkdnccfmaaGreatDoorAll1
import Derived.Test.YtedknnkdnccfmaaGreatDoorAll25
import Derived.Test.YtedknnkdnccfmaaGreatDoorAll0
import Derived.Lib.LazyBuf
import Derived.Lib.SlBuf
section
namespace Go.Proofs.YtedknnkdnccfmaaGreatDoor
open Go.ChangeShapes Go.WideShapes Go.ChangeAt Go.RowKit
set_option linter.unusedVariables false

theorem mem0 {α : Type} {a : Array α} {x : α} (h : a[0]? = some x) : x ∈ a := Array.mem_of_getElem? h
theorem mem1 {α : Type} {a : Array α} {x : α} (h : a[1]? = some x) : x ∈ a := Array.mem_of_getElem? h
theorem mem2 {α : Type} {a : Array α} {x : α} (h : a[2]? = some x) : x ∈ a := Array.mem_of_getElem? h
theorem mem3 {α : Type} {a : Array α} {x : α} (h : a[3]? = some x) : x ∈ a := Array.mem_of_getElem? h
theorem mem4 {α : Type} {a : Array α} {x : α} (h : a[4]? = some x) : x ∈ a := Array.mem_of_getElem? h
theorem mem5 {α : Type} {a : Array α} {x : α} (h : a[5]? = some x) : x ∈ a := Array.mem_of_getElem? h
/-- what follows a region is shown once, for all values but the last, and the cases of the region then -/
theorem grow_cases {P : Program} {ops : Array Oper} {Q : Exit → Act → World → Prop} {a0 : Act} {id : Nat} {w0 : World} (n : Nat) (b : Value)
    (fin : ∀ (v : Nat → Value) (w : World), Below w0.heap.size w0 w → v (n - 1) = b → Q .normal (upto ops v a0 n) w)
    (h : (∀ (v : Nat → Value) (w : World), Below w0.heap.size w0 w → v (n - 1) = b → Q .normal (upto ops v a0 n) w) → (Code.region id ops true).wp P Q a0 w0) :
    (Code.region id ops true).wp P Q a0 w0 := h fin
end Go.Proofs.YtedknnkdnccfmaaGreatDoor
end

section
namespace Go.Proofs.YtedknnkdnccfmaaGreatDoor
open Go.ChangeShapes Go.WideShapes Go.ChangeAt Go.RowKit
set_option linter.unusedVariables false

theorem isEcho_any (k : Int) (w : World) :
    Calls Tryz.prog 76 #[.int .i64 k] w fun e w' => e = .returned (.bool (echoB k)) ∧ w' = w := by
  by_cases h8 : k = 8
  · subst h8
    go_enter Tryz.func76, Tryz.ntmps76
    go_wp2
    go_ret
    exact ⟨rfl, rfl⟩
  · have h8' : (k == 8) = false := beq_eq_false_iff_ne.2 h8
    have e : Hid (echoB k = (k == 0)) := by show _ = _; unfold echoB; rw [decide_eq_false h8]; simp [BEq.beq]
    go_enter Tryz.func76, Tryz.ntmps76
    go_wp2
    go_ret
    exact ⟨by rw [e.out]; rfl, rfl⟩
end Go.Proofs.YtedknnkdnccfmaaGreatDoor
end

section
namespace Go.Proofs.YtedknnkdnccfmaaGreatDoor
open Go.ChangeShapes Go.WideShapes Go.ChangeAt Go.RowKit
set_option linter.unusedVariables false

theorem two_cells1 (W : World) (o : Obj) (a b : Int) (t : TypeId) : ∀ j, (h : j < [a, b].length) → ((W.alloc o).alloc (.cells #[.int .i64 a, .int .i64 b] t)).cell? ⟨W.heap.size + 1, j, none⟩ = some (.int .i64 [a, b][j]) := by
  have := two_cells (W.alloc o) a b t
  simpa using this
theorem two_cells2 (W : World) (o o2 : Obj) (a b : Int) (t : TypeId) : ∀ j, (h : j < [a, b].length) → (((W.alloc o).alloc o2).alloc (.cells #[.int .i64 a, .int .i64 b] t)).cell? ⟨W.heap.size + 2, j, none⟩ = some (.int .i64 [a, b][j]) := by
  have := two_cells ((W.alloc o).alloc o2) a b t
  simpa using this
end Go.Proofs.YtedknnkdnccfmaaGreatDoor
end

section
namespace Go.Proofs.YtedknnkdnccfmaaGreatDoor
open Go.ChangeShapes Go.WideShapes Go.ChangeAt Go.RowKit
set_option linter.unusedVariables false

theorem right_of_cases (t : Tp) : rightT t = (allA [t.src, t.dst] && allW [t.sport, t.dport] && (if t.proto = 1 then echoB t.kind && decide (t.sport = t.dport) else (decide (t.proto = 6) || decide (t.proto = 17)) && decide (t.kind = 0))) := by
  unfold rightT allA allW; simp [Bool.and_assoc]

set_option maxHeartbeats 2000000 in
theorem implTRight_any (t : Tp) (w : World) :
    Calls Tryz.prog 29 #[.agg #[.int .i64 t.proto, .int .i64 t.src, .int .i64 t.sport, .int .i64 t.dst, .int .i64 t.dport, .int .i64 t.kind]] w fun e w' => e = .returned (.bool (rightT t)) ∧ Below w.heap.size w w' := by
  have HB2 := fun o o2 => hidS (((Below.refl w.heap.size w).alloc (Nat.le_refl _) o).alloc (by simp) o2)
  have HB3 := fun o o2 o3 => hidS ((((Below.refl w.heap.size w).alloc (Nat.le_refl _) o).alloc (by simp) o2).alloc (by simp; omega) o3)
  cases h1 : allA [t.src, t.dst]
  · have e : Hid (rightT t = false) := by unfold Hid; rw [right_of_cases]; simp_all
    go_enter Tryz.func29, Tryz.ntmps29
    go_wp2_with fail
    refine (areAddrs_any (w.heap.size + 1) [t.src, t.dst] _ (two_cells1 _ _ _ _ _) (by simp)).mono ?_
    rintro _ w1 ⟨rfl, rfl⟩
    rw [h1]
    go_wp2_with fail
    go_ret
    exact ⟨by rw [e.out]; rfl, (HB2 _ _).out⟩
  cases h2 : allW [t.sport, t.dport]
  · have e : Hid (rightT t = false) := by unfold Hid; rw [right_of_cases]; simp_all
    go_enter Tryz.func29, Tryz.ntmps29
    go_wp2_with fail
    refine (areAddrs_any (w.heap.size + 1) [t.src, t.dst] _ (two_cells1 _ _ _ _ _) (by simp)).mono ?_
    rintro _ w1 ⟨rfl, rfl⟩
    rw [h1]
    go_wp2_with fail
    refine (areWords_any (w.heap.size + 2) [t.sport, t.dport] _ (two_cells2 _ _ _ _ _ _) (by simp)).mono ?_
    rintro _ w1 ⟨rfl, rfl⟩
    rw [h2]
    go_wp2_with fail
    go_ret
    exact ⟨by rw [e.out]; rfl, (HB3 _ _ _).out⟩
  by_cases p6 : t.proto = 6
  · have p6' : (t.proto == 6) = true := beq_iff_eq.2 p6
    by_cases hk : t.kind = 0
    · have hk' : (t.kind == 0) = true := beq_iff_eq.2 hk
      have e : Hid (rightT t = true) := by unfold Hid; rw [right_of_cases]; simp_all
      go_enter Tryz.func29, Tryz.ntmps29
      go_wp2_with fail
      refine (areAddrs_any (w.heap.size + 1) [t.src, t.dst] _ (two_cells1 _ _ _ _ _) (by simp)).mono ?_
      rintro _ w1 ⟨rfl, rfl⟩
      rw [h1]
      go_wp2_with fail
      refine (areWords_any (w.heap.size + 2) [t.sport, t.dport] _ (two_cells2 _ _ _ _ _ _) (by simp)).mono ?_
      rintro _ w1 ⟨rfl, rfl⟩
      rw [h2]
      go_wp2_with fail
      go_ret
      exact ⟨by rw [e.out]; rfl, (HB3 _ _ _).out⟩
    · have hk' : (t.kind == 0) = false := beq_eq_false_iff_ne.2 hk
      have e : Hid (rightT t = false) := by unfold Hid; rw [right_of_cases]; simp_all
      go_enter Tryz.func29, Tryz.ntmps29
      go_wp2_with fail
      refine (areAddrs_any (w.heap.size + 1) [t.src, t.dst] _ (two_cells1 _ _ _ _ _) (by simp)).mono ?_
      rintro _ w1 ⟨rfl, rfl⟩
      rw [h1]
      go_wp2_with fail
      refine (areWords_any (w.heap.size + 2) [t.sport, t.dport] _ (two_cells2 _ _ _ _ _ _) (by simp)).mono ?_
      rintro _ w1 ⟨rfl, rfl⟩
      rw [h2]
      go_wp2_with fail
      go_ret
      exact ⟨by rw [e.out]; rfl, (HB3 _ _ _).out⟩
  · have p6' : (t.proto == 6) = false := beq_eq_false_iff_ne.2 p6
    by_cases p17 : t.proto = 17
    · have p17' : (t.proto == 17) = true := beq_iff_eq.2 p17
      by_cases hk : t.kind = 0
      · have hk' : (t.kind == 0) = true := beq_iff_eq.2 hk
        have e : Hid (rightT t = true) := by unfold Hid; rw [right_of_cases]; simp_all
        go_enter Tryz.func29, Tryz.ntmps29
        go_wp2_with fail
        refine (areAddrs_any (w.heap.size + 1) [t.src, t.dst] _ (two_cells1 _ _ _ _ _) (by simp)).mono ?_
        rintro _ w1 ⟨rfl, rfl⟩
        rw [h1]
        go_wp2_with fail
        refine (areWords_any (w.heap.size + 2) [t.sport, t.dport] _ (two_cells2 _ _ _ _ _ _) (by simp)).mono ?_
        rintro _ w1 ⟨rfl, rfl⟩
        rw [h2]
        go_wp2_with fail
        go_ret
        exact ⟨by rw [e.out]; rfl, (HB3 _ _ _).out⟩
      · have hk' : (t.kind == 0) = false := beq_eq_false_iff_ne.2 hk
        have e : Hid (rightT t = false) := by unfold Hid; rw [right_of_cases]; simp_all
        go_enter Tryz.func29, Tryz.ntmps29
        go_wp2_with fail
        refine (areAddrs_any (w.heap.size + 1) [t.src, t.dst] _ (two_cells1 _ _ _ _ _) (by simp)).mono ?_
        rintro _ w1 ⟨rfl, rfl⟩
        rw [h1]
        go_wp2_with fail
        refine (areWords_any (w.heap.size + 2) [t.sport, t.dport] _ (two_cells2 _ _ _ _ _ _) (by simp)).mono ?_
        rintro _ w1 ⟨rfl, rfl⟩
        rw [h2]
        go_wp2_with fail
        go_ret
        exact ⟨by rw [e.out]; rfl, (HB3 _ _ _).out⟩
    · have p17' : (t.proto == 17) = false := beq_eq_false_iff_ne.2 p17
      by_cases p1 : t.proto = 1
      · have p1' : (t.proto == 1) = true := beq_iff_eq.2 p1
        cases hk : echoB t.kind
        · have e : Hid (rightT t = false) := by unfold Hid; rw [right_of_cases]; simp_all
          go_enter Tryz.func29, Tryz.ntmps29
          go_wp2_with fail
          refine (areAddrs_any (w.heap.size + 1) [t.src, t.dst] _ (two_cells1 _ _ _ _ _) (by simp)).mono ?_
          rintro _ w1 ⟨rfl, rfl⟩
          rw [h1]
          go_wp2_with fail
          refine (areWords_any (w.heap.size + 2) [t.sport, t.dport] _ (two_cells2 _ _ _ _ _ _) (by simp)).mono ?_
          rintro _ w1 ⟨rfl, rfl⟩
          rw [h2]
          go_wp2_with fail
          refine (isEcho_any _ _).mono ?_
          rintro _ w1 ⟨rfl, rfl⟩
          rw [hk]
          go_wp2_with fail
          go_ret
          exact ⟨by rw [e.out]; rfl, (HB3 _ _ _).out⟩
        by_cases hp : t.sport = t.dport
        · have hp' : (t.sport == t.dport) = true := beq_iff_eq.2 hp
          have e : Hid (rightT t = true) := by unfold Hid; rw [right_of_cases]; simp_all
          clear hp
          go_enter Tryz.func29, Tryz.ntmps29
          go_wp2_with fail
          refine (areAddrs_any (w.heap.size + 1) [t.src, t.dst] _ (two_cells1 _ _ _ _ _) (by simp)).mono ?_
          rintro _ w1 ⟨rfl, rfl⟩
          rw [h1]
          go_wp2_with fail
          refine (areWords_any (w.heap.size + 2) [t.sport, t.dport] _ (two_cells2 _ _ _ _ _ _) (by simp)).mono ?_
          rintro _ w1 ⟨rfl, rfl⟩
          rw [h2]
          go_wp2_with fail
          refine (isEcho_any _ _).mono ?_
          rintro _ w1 ⟨rfl, rfl⟩
          rw [hk]
          go_wp2_with fail
          go_ret
          exact ⟨by rw [e.out]; rfl, (HB3 _ _ _).out⟩
        · have hp' : (t.sport == t.dport) = false := beq_eq_false_iff_ne.2 hp
          have e : Hid (rightT t = false) := by unfold Hid; rw [right_of_cases]; simp_all
          clear hp
          go_enter Tryz.func29, Tryz.ntmps29
          go_wp2_with fail
          refine (areAddrs_any (w.heap.size + 1) [t.src, t.dst] _ (two_cells1 _ _ _ _ _) (by simp)).mono ?_
          rintro _ w1 ⟨rfl, rfl⟩
          rw [h1]
          go_wp2_with fail
          refine (areWords_any (w.heap.size + 2) [t.sport, t.dport] _ (two_cells2 _ _ _ _ _ _) (by simp)).mono ?_
          rintro _ w1 ⟨rfl, rfl⟩
          rw [h2]
          go_wp2_with fail
          refine (isEcho_any _ _).mono ?_
          rintro _ w1 ⟨rfl, rfl⟩
          rw [hk]
          go_wp2_with fail
          go_ret
          exact ⟨by rw [e.out]; rfl, (HB3 _ _ _).out⟩
      · have p1' : (t.proto == 1) = false := beq_eq_false_iff_ne.2 p1
        have e : Hid (rightT t = false) := by unfold Hid; rw [right_of_cases]; simp_all
        go_enter Tryz.func29, Tryz.ntmps29
        go_wp2_with fail
        refine (areAddrs_any (w.heap.size + 1) [t.src, t.dst] _ (two_cells1 _ _ _ _ _) (by simp)).mono ?_
        rintro _ w1 ⟨rfl, rfl⟩
        rw [h1]
        go_wp2_with fail
        refine (areWords_any (w.heap.size + 2) [t.sport, t.dport] _ (two_cells2 _ _ _ _ _ _) (by simp)).mono ?_
        rintro _ w1 ⟨rfl, rfl⟩
        rw [h2]
        go_wp2_with fail
        go_ret
        exact ⟨by rw [e.out]; rfl, (HB3 _ _ _).out⟩
end Go.Proofs.YtedknnkdnccfmaaGreatDoor
end

section
namespace Go.Proofs.YtedknnkdnccfmaaGreatDoor
open Go.ChangeShapes Go.WideShapes Go.ChangeAt Go.RowKit
open Go.ChangeMaps (open_string shut_string)
set_option linter.unusedVariables false

set_option maxRecDepth 1000000 in
theorem Tryz.sizeU8 (w : World) : (Go.sizeOf 5).run Tryz.prog w = .ok 1 w := by rfl

/-- 'copy(b[bp:], s)', s a string, bp = how much is filled -/
theorem copy_text (w0 wr : World) (h N : Nat) (acc : List UInt8) (s : ByteArray) (ty : TypeId) (hh : w0.heap.size ≤ h)
    (hb : Lib.Buf w0 wr h N acc) (hfit : acc.length + s.size ≤ N) :
    ∃ wr', (Builtin.copy_ #[22, 9] ty #[Lib.tailV h N acc.length, .string s]).run Tryz.prog wr = .ok (.int .i64 (s.size : Int)) wr' ∧ Lib.Buf w0 wr' h N (acc ++ s.data.toList) := by
  have hsl : s.data.toList.length = s.size := by simp
  by_cases hl : s.size = 0
  · have he : s.data.toList = [] := List.length_eq_zero_iff.1 (by rw [hsl]; exact hl)
    refine ⟨wr, ?_, by rw [he]; simpa using hb⟩
    unfold Lib.tailV
    have := run_copy_string (P := Tryz.prog) wr 22 9 ty 5 h (if N = acc.length then 0 else acc.length) (N - acc.length) (N - acc.length) s Tryz.underlying22 Tryz.sizeU8 (by omega) (fun j hj => by omega) (fun j hj => by omega)
    rw [he] at this
    split <;> simp_all [World.setCells, goInt]
  · have hne : ¬ N = acc.length := by omega
    have hr := run_copy_string (P := Tryz.prog) wr 22 9 ty 5 h acc.length (N - acc.length) (N - acc.length) s Tryz.underlying22 Tryz.sizeU8 (by omega)
      (fun j hj => hb.there _ (by omega)) (fun j hj => hb.free _ (by omega))
    refine ⟨_, by unfold Lib.tailV; rw [if_neg hne]; exact hr, ?_⟩
    have hin := World.cell?_setCells_in h (s.data.toList.map fun x => Value.int .u8 (x.toNat : Int)) acc.length wr (fun j hj => by rw [List.length_map, hsl] at hj; exact hb.there _ (by omega))
    have hout := World.cell?_setCells_out h (s.data.toList.map fun x => Value.int .u8 (x.toNat : Int)) acc.length wr
    refine ⟨?_, ?_, ?_, ?_, by rw [List.length_append, hsl]; exact hfit⟩
    · exact Lib.below_setCells h (Nat.le_refl _) _ _ hb.below
    · intro j hj
      by_cases h1 : acc.length ≤ j ∧ j < acc.length + s.size
      · obtain ⟨d, rfl⟩ : ∃ d, j = acc.length + d := ⟨j - acc.length, by omega⟩
        rw [hin d (by rw [List.length_map, hsl]; omega)]
        rfl
      · rw [hout ⟨h, j, none⟩ (fun _ _ => by rw [List.length_map, hsl]; show j < _ ∨ _ ≤ j; omega)]
        exact hb.there j hj
    · intro j hj
      rw [World.frozen?_setCells]
      exact hb.free j hj
    · intro j x hx
      by_cases h1 : j < acc.length
      · rw [List.getElem?_append_left h1] at hx
        rw [hout ⟨h, j, none⟩ (fun _ _ => Or.inl h1)]
        exact hb.holds j x hx
      · rw [List.getElem?_append_right (by omega)] at hx
        obtain ⟨d, rfl⟩ : ∃ d, j = acc.length + d := ⟨j - acc.length, by omega⟩
        rw [Nat.add_sub_cancel_left] at hx
        have hd : d < s.data.toList.length := (List.getElem?_eq_some_iff.1 hx).1
        rw [hin d (by rw [List.length_map]; exact hd)]
        simp only [List.getElem_map]
        rw [(List.getElem?_eq_some_iff.1 hx).2]

/-- the buffer filled, as a string -/
theorem conv_buf {w0 wr : World} {h N : Nat} {acc : List UInt8} (hb : Lib.Buf w0 wr h N acc) (hN : acc.length = N) :
    (convert 22 9 (.slice (some ⟨h, 0, none⟩) N N)).run Tryz.prog wr = .ok (.string ⟨acc.toArray⟩) wr := by
  subst hN
  exact run_convert_bytes_back (P := Tryz.prog) wr 22 9 5 ⟨h, 0, none⟩ acc.length acc Tryz.underlying22 Tryz.underlying5 Tryz.underlying9 (fun j hj => by
      rw [Addr.add_lit, Nat.zero_add]
      exact hb.holds j _ (List.getElem?_eq_getElem hj))

set_option maxRecDepth 100000 in
set_option maxHeartbeats 1000000 in
theorem joinTexts_two (a b : ByteArray) (k : Nat) (w : World) (ha : w.cell? ⟨k, 0, none⟩ = some (.string a)) (hb : w.cell? ⟨k, 1, none⟩ = some (.string b)) (hs : a.size + b.size ≤ 1099511627776) :
    Calls Tryz.prog 44 #[.slice (some ⟨k, 0, none⟩) 2 2] w fun e w' => e = .returned (.string (a ++ b)) ∧ Below w.heap.size w w' := by
  obtain ⟨N, hN⟩ : ∃ N, N = a.size + b.size := ⟨_, rfl⟩
  have hmk : ∀ W, (Instr.makeSlice 22 (.int .i64 ((a.size : Int) + (b.size : Int))) (.int .i64 ((a.size : Int) + (b.size : Int)))).run Tryz.prog W = .ok (.slice (some ⟨W.heap.size, 0, none⟩) N N) (W.alloc (.cells (madeCells #[.int .u8 0] N) 5)) := by
    intro W
    have := run_make_row' (P := Tryz.prog) 22 5 (.int .u8 0) 1 Tryz.underlying22 Tryz.infoU8 rfl .i64 .i64 N (by omega) (by omega) W
    rw [show ((N : Nat) : Int) = (a.size : Int) + (b.size : Int) from by omega] at this
    exact this
  have hsl0 : ∀ W, (Instr.slice 22 (.slice (some ⟨w.heap.size, 0, none⟩) N N) (some (.int .i64 0)) none none).run Tryz.prog W = .ok (Lib.tailV w.heap.size N 0) W := fun W => Lib.run_slice_tailV W 22 5 Tryz.underlying22 Tryz.sizeU8 w.heap.size N 0 (by omega)
  have hsl1 : ∀ W, (Instr.slice 22 (.slice (some ⟨w.heap.size, 0, none⟩) N N) (some (.int .i64 (a.size : Int))) none none).run Tryz.prog W = .ok (Lib.tailV w.heap.size N a.size) W := fun W => Lib.run_slice_tailV W 22 5 Tryz.underlying22 Tryz.sizeU8 w.heap.size N a.size (by omega)
  have hk : k < w.heap.size := World.block_lt_of_cell? w ⟨k, 0, none⟩ ha
  have hbuf0 : Lib.Buf w (w.alloc (.cells (madeCells #[.int .u8 0] N) 5)) w.heap.size N [] := Lib.Buf.start w _ 5 N 0 (by rw [size_madeCells]; omega)
  obtain ⟨w1, hr1, hbuf1⟩ := copy_text w _ w.heap.size N [] a 3 (Nat.le_refl _) hbuf0 (by simp; omega)
  obtain ⟨w2, hr2, hbuf2⟩ := copy_text w w1 w.heap.size N _ b 3 (Nat.le_refl _) hbuf1 (by simp; omega)
  have hlen : ([] ++ a.data.toList).length = a.size := by simp
  rw [hlen] at hr2
  have hb1 : w1.cell? ⟨k, 1, none⟩ = some (.string b) := (hbuf1.below.cell (p := ⟨k, 1, none⟩) hk).trans hb
  have hcv := conv_buf hbuf2 (by simp; omega)
  have hend : (⟨(([] ++ a.data.toList) ++ b.data.toList).toArray⟩ : ByteArray) = a ++ b := ByteArray.ext (by simp)
  rw [hend] at hcv
  have hbel : Below w.heap.size w w2 := hbuf2.below
  have HN : Hid (N = a.size + b.size) := hN
  clear hN hbuf0 hbuf1 hbuf2 hlen hend
  simp only [List.length_nil] at hr1
  go_enter Tryz.func44, Tryz.ntmps44
  go_wp2
  refine wp_loop_rounds 3 ?_
  rw [rounds_succ]
  go_wp2
  rw [rounds_succ]
  go_wp2
  rw [rounds_succ]
  go_wp2
  refine wp_loop_rounds 3 ?_
  rw [rounds_succ]
  go_wp2
  rw [rounds_succ]
  go_wp2
  rw [rounds_succ]
  go_wp2
  go_ret
  exact ⟨rfl, hbel⟩
end Go.Proofs.YtedknnkdnccfmaaGreatDoor
end
