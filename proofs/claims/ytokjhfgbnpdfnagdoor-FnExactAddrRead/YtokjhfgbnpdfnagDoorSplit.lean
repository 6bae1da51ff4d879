/- Proved here: spec.l01Split answers the parts of a text between bytes of one kind, in a row of its own; all old memory stays (condition: at most 8000 bytes). -/
import Derived.Test.YtokjhfgbnpdfnagDoorOwn
import Derived.Test.YtokjhfgbnpdfnagDoorWordsH
namespace Go.Proofs.YtokjhfgbnpdfnagDoor
open Go.ChangeShapes Go.WideShapes Go.ChangeAt Go.RowKit
set_option linter.unusedVariables false
set_option maxRecDepth 100000

/-- the parts that have ended among the first k bytes, and where the next one begins -/
def cuts (s : ByteArray) (c : Nat) : Nat → List ByteArray × Nat
  | 0 => ([], 0)
  | k + 1 => if (s.data.getD k 0).toNat = c then ((cuts s c k).1 ++ [s.extract (cuts s c k).2 k], k + 1) else cuts s c k
def splitT (s : ByteArray) (c : Nat) : List ByteArray := (cuts s c s.size).1 ++ [s.extract (cuts s c s.size).2 s.size]
theorem cuts_yes {s : ByteArray} {c k : Nat} (hk : k < s.size) (h : s[k].toNat = c) : cuts s c (k + 1) = ((cuts s c k).1 ++ [s.extract (cuts s c k).2 k], k + 1) := by
  have e : (s.data.getD k 0).toNat = c := by rw [Array.getD_eq_getD_getElem?, Array.getElem?_eq_getElem (by simpa using hk)]; exact h
  show (if _ then _ else _) = _
  rw [if_pos e]
theorem cuts_no {s : ByteArray} {c k : Nat} (hk : k < s.size) (h : s[k].toNat ≠ c) : cuts s c (k + 1) = cuts s c k := by
  have e : ¬ (s.data.getD k 0).toNat = c := by rw [Array.getD_eq_getD_getElem?, Array.getElem?_eq_getElem (by simpa using hk)]; exact h
  show (if _ then _ else _) = _
  rw [if_neg e]
theorem cuts_le (s : ByteArray) (c k : Nat) : (cuts s c k).2 ≤ k ∧ (cuts s c k).1.length ≤ k := by
  induction k with
  | zero => simp [cuts]
  | succ k ih =>
    unfold cuts
    split
    · simp; omega
    · omega
def strsV (l : List ByteArray) : List Value := l.map fun s => .string s
theorem strsV_snoc (l : List ByteArray) (s : ByteArray) : strsV (l ++ [s]) = strsV l ++ [.string s] := by simp [strsV]
theorem Tryd.infoStr : (Tryd.prog.info? 9).map (fun i => (i.zero, i.size, i.bytes)) = some (some (.string ⟨#[]⟩), 1, 16) := by kernel_rfl

theorem below_appS {B : Nat} {w wr w1 : World} {v : Value} {n : Nat} {xs : List Value} {o : Obj} (hbel : Below B w wr) (hB : B ≤ wr.heap.size) (hown : wr.ownsRow B 9 1 v n xs) (hg : (wr.alloc o).grownBy w1 v.ownBlock) : Below B w w1 :=
  (hbel.alloc hB o).grown hg (by simp; omega) (fun k hk => (hown.lt k hk).1)
/-- what l01Split answers -/
def Parts (B : Nat) (l : List ByteArray) (e : Ending) (w' : World) : Prop := ∃ v, e = .returned v ∧ w'.ownsRow B 9 1 v l.length (strsV l)

set_option maxRecDepth 100000 in
set_option maxHeartbeats 2000000 in
theorem l01Split_any (s : ByteArray) (c : Nat) (w : World) (hs : s.size ≤ 8000) (hc : c < 256) :
    Calls Tryd.prog 16 #[.string s, .int .u8 (c : Int)] w fun e w' => Parts w.heap.size (splitT s c) e w' ∧ Below w.heap.size w w' := by
  obtain ⟨i0, hi, hz0, hz1, hz2⟩ := info_parts Tryd.infoStr
  go_enter Tryd.func16, Tryd.ntmps16
  go_wp2
  go_loopw [5, 6, 7] (fun v f i wr => ∃ (k : Nat) (ps : List ByteArray) (fr : Nat), k ≤ s.size ∧ i = .int .i64 (k : Int) ∧ f = .int .i64 (fr : Int) ∧ fr ≤ k ∧ ps.length ≤ k ∧ Hid (cuts s c k = (ps, fr)) ∧ wr.ownsRow w.heap.size 9 1 v ps.length (strsV ps) ∧ Below w.heap.size w wr) (fun _ _ i _ => s.size - (intOf i).toNat)
  case atStart =>
    exact ⟨0, [], 0, by omega, rfl, rfl, by omega, by simp, rfl, ⟨rfl, Or.inr ⟨w.heap.size, 0, #[], rfl, Nat.le_refl _, heap_new _ _, Nat.le_refl _, by simp [maxLen], rfl, rfl⟩⟩, (Below.refl _ _).alloc (Nat.le_refl _) _⟩
  case round =>
    obtain ⟨k, ps, fr, hk, rfl, rfl, hfr, hpl, hI, hown, hbel⟩ := hrel
    have hB : w.heap.size ≤ wr.heap.size := hbel.size
    have hs' : (s.size : Int) ≤ 8000 := by omega
    by_cases hlt : k < s.size
    · have hlt' : (k : Int) < (s.size : Int) := by omega
      have hfr' : (fr : Int) ≤ (k : Int) := by omega
      by_cases hc2 : s[k].toNat = c
      · have hc3 : ((s[k].toNat : Int) == (c : Int)) = true := beq_iff_eq.2 (by omega)
        have hI2 : Hid (cuts s c (k + 1) = (ps ++ [s.extract fr k], k + 1)) := by rw [cuts_yes hlt hc2, hI.out]; rfl
        clear hI hc2
        go_wp2_with (at_builtin; refine wpList_append_own _ rfl _ _ 39 rfl w.heap.size 9 i0 (.string ⟨#[]⟩) 1 16 Tryd.underlying39 hi hz0 hz1 hz2 rfl (by decide) _ _ _ rfl (hown.alloc _) ⟨wr.heap.size, 0, none⟩ 1 1 [.string (s.extract fr k)] rfl rfl (cell_one_new _ _ _) ?c2 ?c3 ?c4 ?c5 ?_)
        case c2 => intro x hx; simp at hx; subst hx; rfl
        case c3 => unfold maxLen; omega
        case c4 => omega
        case c5 => simp; omega
        intro v' w1 hown' hgrow _
        have hown2 : w1.ownsRow w.heap.size 9 1 v' (ps ++ [s.extract fr k]).length (strsV (ps ++ [s.extract fr k])) := by rw [strsV_snoc, List.length_append]; exact hown'
        have hbel2 := below_appS hbel hB hown hgrow
        clear hown' hgrow hown hbel
        go_wp2
        go_roundw
        case rel => exact ⟨k + 1, _, k + 1, by omega, by go_num, by go_num, by omega, by simp; omega, hI2, hown2, hbel2⟩
        case measure => simp [intOf]; omega
      · have hc3 : ((s[k].toNat : Int) == (c : Int)) = false := beq_eq_false_iff_ne.2 (by omega)
        have hI2 : Hid (cuts s c (k + 1) = (ps, fr)) := by rw [cuts_no hlt hc2, hI.out]; rfl
        clear hI hc2
        go_wp2
        go_roundw
        case rel => exact ⟨k + 1, ps, fr, by omega, by go_num, rfl, by omega, by omega, hI2, hown, hbel⟩
        case measure => simp [intOf]; omega
    · have hlt' : ¬ (k : Int) < (s.size : Int) := by omega
      have hfr' : (fr : Int) ≤ (s.size : Int) := by omega
      have hE : Hid (splitT s c = ps ++ [s.extract fr s.size]) := by
        have : k = s.size := by omega
        have h2 := hI.out
        rw [this] at h2
        unfold splitT
        rw [h2]
        rfl
      clear hI
      go_wp2_with (at_builtin; refine wpList_append_own _ rfl _ _ 39 rfl w.heap.size 9 i0 (.string ⟨#[]⟩) 1 16 Tryd.underlying39 hi hz0 hz1 hz2 rfl (by decide) _ _ _ rfl (hown.alloc _) ⟨wr.heap.size, 0, none⟩ 1 1 [.string (s.extract fr s.size)] rfl rfl (cell_one_new _ _ _) ?c2 ?c3 ?c4 ?c5 ?_)
      case c2 => first | (intro x hx; simp at hx; subst hx; rfl) | rfl
      case c3 => unfold maxLen; omega
      case c4 => omega
      case c5 => first | omega | (simp; omega)
      intro v' w1 hown' hgrow _
      have hown2 : w1.ownsRow w.heap.size 9 1 v' (ps ++ [s.extract fr s.size]).length (strsV (ps ++ [s.extract fr s.size])) := by rw [strsV_snoc, List.length_append]; exact hown'
      have hbel2 := below_appS hbel hB hown hgrow
      clear hown' hgrow hown hbel
      go_wp2
      go_ret
      exact ⟨⟨_, rfl, by rw [hE.out]; exact hown2⟩, hbel2⟩
end Go.Proofs.YtokjhfgbnpdfnagDoor
