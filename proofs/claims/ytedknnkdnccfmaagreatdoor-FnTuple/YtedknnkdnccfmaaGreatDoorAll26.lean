/- Proved here: spec.l01Split answers the parts of a text between bytes of one kind, in a row of its own; all old memory stays (condition: at most 8000 bytes). · Proved here: spec.AddrRead answers the address whose text this is, or why it is none; all old memory stays (condition: the text is a string). -/
import Derived.Test.YtedknnkdnccfmaaGreatDoorAll0
import Derived.Test.YtedknnkdnccfmaaGreatDoorAll1
import Derived.Test.YtedknnkdnccfmaaGreatDoorAll23
import Derived.Test.YtedknnkdnccfmaaGreatDoorAll4
section
namespace Go.Proofs.YtedknnkdnccfmaaGreatDoor
open Go.ChangeShapes Go.WideShapes Go.ChangeAt Go.RowKit
set_option linter.unusedVariables false
set_option maxRecDepth 100000

/-- the parts that have ended among the first k bytes, and where the next one begins -/
def cuts (s : ByteArray) (c : Nat) : Nat → List ByteArray × Nat
  | 0 => ([], 0)
  | k + 1 => if (s.data.getD k 0).toNat = c then ((cuts s c k).1 ++ [s.extract (cuts s c k).2 k], k + 1) else cuts s c k
def splitT (s : ByteArray) (c : Nat) : List ByteArray := (cuts s c s.size).1 ++ [s.extract (cuts s c s.size).2 s.size]
theorem cuts_yes {s : ByteArray} {c k : Nat} (hk : k < s.size) (h : s[k].toNat = c) : cuts s c (k + 1) = ((cuts s c k).1 ++ [s.extract (cuts s c k).2 k], k + 1) := by
  have e : (s.data.getD k 0).toNat = c := by rw [Array.getD_eq_getD_getElem?, Array.getElem?_eq_getElem (by simpa using hk)]; exact h
  show (if _ then _ else _) = _
  rw [if_pos e]
theorem cuts_no {s : ByteArray} {c k : Nat} (hk : k < s.size) (h : s[k].toNat ≠ c) : cuts s c (k + 1) = cuts s c k := by
  have e : ¬ (s.data.getD k 0).toNat = c := by rw [Array.getD_eq_getD_getElem?, Array.getElem?_eq_getElem (by simpa using hk)]; exact h
  show (if _ then _ else _) = _
  rw [if_neg e]
theorem cuts_le (s : ByteArray) (c k : Nat) : (cuts s c k).2 ≤ k ∧ (cuts s c k).1.length ≤ k := by
  induction k with
  | zero => simp [cuts]
  | succ k ih =>
    unfold cuts
    split
    · simp; omega
    · omega
def strsV (l : List ByteArray) : List Value := l.map fun s => .string s
theorem strsV_snoc (l : List ByteArray) (s : ByteArray) : strsV (l ++ [s]) = strsV l ++ [.string s] := by simp [strsV]
theorem Tryz.infoStr : (Tryz.prog.info? 9).map (fun i => (i.zero, i.size, i.bytes)) = some (some (.string ⟨#[]⟩), 1, 16) := by kernel_rfl

theorem below_appS {B : Nat} {w wr w1 : World} {v : Value} {n : Nat} {xs : List Value} {o : Obj} (hbel : Below B w wr) (hB : B ≤ wr.heap.size) (hown : wr.ownsRow B 9 1 v n xs) (hg : (wr.alloc o).grownBy w1 v.ownBlock) : Below B w w1 :=
  (hbel.alloc hB o).grown hg (by simp; omega) (fun k hk => (hown.lt k hk).1)
/-- what l01Split answers -/
def Parts (B : Nat) (l : List ByteArray) (e : Ending) (w' : World) : Prop := ∃ v, e = .returned v ∧ w'.ownsRow B 9 1 v l.length (strsV l)

set_option maxRecDepth 100000 in
set_option maxHeartbeats 2000000 in
theorem l01Split_any (s : ByteArray) (c : Nat) (w : World) (hs : s.size ≤ 8000) (hc : c < 256) :
    Calls Tryz.prog 65 #[.string s, .int .u8 (c : Int)] w fun e w' => Parts w.heap.size (splitT s c) e w' ∧ Below w.heap.size w w' := by
  obtain ⟨i0, hi, hz0, hz1, hz2⟩ := info_parts Tryz.infoStr
  go_enter Tryz.func65, Tryz.ntmps65
  go_wp2
  go_loopw [5, 6, 7] (fun v f i wr => ∃ (k : Nat) (ps : List ByteArray) (fr : Nat), k ≤ s.size ∧ i = .int .i64 (k : Int) ∧ f = .int .i64 (fr : Int) ∧ fr ≤ k ∧ ps.length ≤ k ∧ Hid (cuts s c k = (ps, fr)) ∧ wr.ownsRow w.heap.size 9 1 v ps.length (strsV ps) ∧ Below w.heap.size w wr) (fun _ _ i _ => s.size - (intOf i).toNat)
  case atStart =>
    exact ⟨0, [], 0, by omega, rfl, rfl, by omega, by simp, rfl, ⟨rfl, Or.inr ⟨w.heap.size, 0, #[], rfl, Nat.le_refl _, heap_new _ _, Nat.le_refl _, by simp [maxLen], rfl, rfl⟩⟩, (Below.refl _ _).alloc (Nat.le_refl _) _⟩
  case round =>
    obtain ⟨k, ps, fr, hk, rfl, rfl, hfr, hpl, hI, hown, hbel⟩ := hrel
    have hB : w.heap.size ≤ wr.heap.size := hbel.size
    have hs' : (s.size : Int) ≤ 8000 := by omega
    by_cases hlt : k < s.size
    · have hlt' : (k : Int) < (s.size : Int) := by omega
      have hfr' : (fr : Int) ≤ (k : Int) := by omega
      by_cases hc2 : s[k].toNat = c
      · have hc3 : ((s[k].toNat : Int) == (c : Int)) = true := beq_iff_eq.2 (by omega)
        have hI2 : Hid (cuts s c (k + 1) = (ps ++ [s.extract fr k], k + 1)) := by rw [cuts_yes hlt hc2, hI.out]; rfl
        clear hI hc2
        go_wp2_with (at_builtin; refine wpList_append_own _ rfl _ _ 81 rfl w.heap.size 9 i0 (.string ⟨#[]⟩) 1 16 Tryz.underlying81 hi hz0 hz1 hz2 rfl (by decide) _ _ _ rfl (hown.alloc _) ⟨wr.heap.size, 0, none⟩ 1 1 [.string (s.extract fr k)] rfl rfl (cell_one_new _ _ _) ?c2 ?c3 ?c4 ?c5 ?_)
        case c2 => intro x hx; simp at hx; subst hx; rfl
        case c3 => unfold maxLen; omega
        case c4 => omega
        case c5 => simp; omega
        intro v' w1 hown' hgrow _
        have hown2 : w1.ownsRow w.heap.size 9 1 v' (ps ++ [s.extract fr k]).length (strsV (ps ++ [s.extract fr k])) := by rw [strsV_snoc, List.length_append]; exact hown'
        have hbel2 := below_appS hbel hB hown hgrow
        clear hown' hgrow hown hbel
        go_wp2
        go_roundw
        case rel => exact ⟨k + 1, _, k + 1, by omega, by go_num, by go_num, by omega, by simp; omega, hI2, hown2, hbel2⟩
        case measure => simp [intOf]; omega
      · have hc3 : ((s[k].toNat : Int) == (c : Int)) = false := beq_eq_false_iff_ne.2 (by omega)
        have hI2 : Hid (cuts s c (k + 1) = (ps, fr)) := by rw [cuts_no hlt hc2, hI.out]; rfl
        clear hI hc2
        go_wp2
        go_roundw
        case rel => exact ⟨k + 1, ps, fr, by omega, by go_num, rfl, by omega, by omega, hI2, hown, hbel⟩
        case measure => simp [intOf]; omega
    · have hlt' : ¬ (k : Int) < (s.size : Int) := by omega
      have hfr' : (fr : Int) ≤ (s.size : Int) := by omega
      have hE : Hid (splitT s c = ps ++ [s.extract fr s.size]) := by
        have : k = s.size := by omega
        have h2 := hI.out
        rw [this] at h2
        unfold splitT
        rw [h2]
        rfl
      clear hI
      go_wp2_with (at_builtin; refine wpList_append_own _ rfl _ _ 81 rfl w.heap.size 9 i0 (.string ⟨#[]⟩) 1 16 Tryz.underlying81 hi hz0 hz1 hz2 rfl (by decide) _ _ _ rfl (hown.alloc _) ⟨wr.heap.size, 0, none⟩ 1 1 [.string (s.extract fr s.size)] rfl rfl (cell_one_new _ _ _) ?c2 ?c3 ?c4 ?c5 ?_)
      case c2 => first | (intro x hx; simp at hx; subst hx; rfl) | rfl
      case c3 => unfold maxLen; omega
      case c4 => omega
      case c5 => first | omega | (simp; omega)
      intro v' w1 hown' hgrow _
      have hown2 : w1.ownsRow w.heap.size 9 1 v' (ps ++ [s.extract fr s.size]).length (strsV (ps ++ [s.extract fr s.size])) := by rw [strsV_snoc, List.length_append]; exact hown'
      have hbel2 := below_appS hbel hB hown hgrow
      clear hown' hgrow hown hbel
      go_wp2
      go_ret
      exact ⟨⟨_, rfl, by rw [hE.out]; exact hown2⟩, hbel2⟩
end Go.Proofs.YtedknnkdnccfmaaGreatDoor
end

section
namespace Go.Proofs.YtedknnkdnccfmaaGreatDoor
open Go.ChangeShapes Go.WideShapes Go.ChangeAt Go.RowKit
set_option linter.unusedVariables false
set_option maxRecDepth 100000

/-- the number that the first j bytes tell, were they digits -/
def numTo (s : ByteArray) : Nat → Int
  | 0 => 0
  | j + 1 => 10 * numTo s j + ((s.data.getD j 0).toNat : Int) - 48
def partN (s : ByteArray) : Int := numTo s (min s.size 4)
/-- the address that the first i parts tell, were they numbers -/
def addrTo (ps : List ByteArray) : Nat → Int
  | 0 => 0
  | i + 1 => 256 * addrTo ps i + partN (ps.getD i ⟨#[]⟩)
def addrN (s : ByteArray) : Int := addrTo (splitT s 46) (min (splitT s 46).length 4)
theorem numTo_bd (s : ByteArray) : ∀ j, j ≤ 4 → -1000000 ≤ numTo s j ∧ numTo s j ≤ 1000000 := by
  have hb : ∀ k, (s.data.getD k 0).toNat < 256 := fun k => UInt8.toNat_lt _
  intro j hj
  have b0 := hb 0
  have b1 := hb 1
  have b2 := hb 2
  have b3 := hb 3
  rcases (by omega : j = 0 ∨ j = 1 ∨ j = 2 ∨ j = 3 ∨ j = 4) with rfl | rfl | rfl | rfl | rfl <;> simp only [numTo] <;> omega
theorem partN_bd (s : ByteArray) : -1000000 ≤ partN s ∧ partN s ≤ 1000000 := numTo_bd s _ (Nat.min_le_right _ _)
theorem addrTo_bd (ps : List ByteArray) : ∀ i, i ≤ 4 → -20000000000000 ≤ addrTo ps i ∧ addrTo ps i ≤ 20000000000000 := by
  intro i hi
  have b0 := partN_bd (ps.getD 0 ⟨#[]⟩)
  have b1 := partN_bd (ps.getD 1 ⟨#[]⟩)
  have b2 := partN_bd (ps.getD 2 ⟨#[]⟩)
  have b3 := partN_bd (ps.getD 3 ⟨#[]⟩)
  rcases (by omega : i = 0 ∨ i = 1 ∨ i = 2 ∨ i = 3 ∨ i = 4) with rfl | rfl | rfl | rfl | rfl <;> simp only [addrTo] <;> omega
theorem cuts_part (s : ByteArray) (c k : Nat) : ∀ p ∈ (cuts s c k).1, p.size ≤ s.size := by
  induction k with
  | zero => simp [cuts]
  | succ k ih =>
    unfold cuts
    split
    · intro p hp
      rcases List.mem_append.1 hp with h | h
      · exact ih p h
      · simp at h; subst h; simp; omega
    · exact ih
theorem split_part (s : ByteArray) (c : Nat) : ∀ p ∈ splitT s c, p.size ≤ s.size := by
  intro p hp
  rcases List.mem_append.1 hp with h | h
  · exact cuts_part s c _ p h
  · simp at h; subst h; simp
theorem split_len (s : ByteArray) (c : Nat) : 1 ≤ (splitT s c).length ∧ (splitT s c).length ≤ s.size + 1 := by
  have := (cuts_le s c s.size).2
  unfold splitT
  simp; omega

/-- the code and the number for a text of at most 8000 bytes -/
def codeA (s : ByteArray) : Int := if s.toList.isEmpty = true ∨ ((addrAns (addrN s)).toList == s.toList) = false then 3 else 0
def numA (s : ByteArray) : Int := if codeA s = 0 then addrN s else 0
theorem addrAns_sz100 (n : Int) : (addrAns n).size ≤ 100 := by
  unfold addrAns
  split
  · have h1 := decT_size (n.toNat / 16777216)
    have h2 := decT_size (n.toNat / 65536 % 256)
    have h3 := decT_size (n.toNat / 256 % 256)
    have h4 := decT_size (n.toNat % 256)
    have h5 : dotT.size = 1 := rfl
    unfold addrT
    simp only [ByteArray.size_append]
    omega
  · exact Nat.zero_le _

set_option maxRecDepth 100000 in
set_option maxHeartbeats 4000000 in
theorem specAddrRead_in (s : ByteArray) (w : World) (hs : s.size ≤ 8000) :
    Calls Tryz.prog 18 #[.string s] w fun e w' => e = .returned (.agg #[.int .i64 (numA s), .int .i64 0, .int .i64 (codeA s)]) ∧ Below w.heap.size w w' := by
  have hG := hidS (heap_newG w (.cells #[.int .i64 0, .int .i64 0, .int .i64 0] 34))
  have hL := hidS ((Below.refl w.heap.size w).alloc (Nat.le_refl _) (.cells #[.int .i64 0, .int .i64 0, .int .i64 0] 34))
  go_enter Tryz.func18, Tryz.ntmps18
  go_wp2_with fail
  generalize w.alloc (.cells #[.int .i64 0, .int .i64 0, .int .i64 0] 34) = w1 at hG hL ⊢
  refine (l01Split_any s 46 _ hs (by omega)).mono ?_
  rintro e w2 ⟨⟨v, rfl, hown⟩, hb2⟩
  obtain ⟨ps, hps⟩ : ∃ ps, ps = splitT s 46 := ⟨_, rfl⟩
  have hlen := split_len s 46
  have hpart := hidS (split_part s 46)
  rw [← hps] at hown hlen hpart
  have HPS := hidS hps
  clear hps
  obtain ⟨g, cap, rfl, hg, hgl⟩ : ∃ g cap, v = .slice (some ⟨g, 0, none⟩) ps.length cap ∧ w1.heap.size ≤ g ∧ g < w2.heap.size := by
    rcases hown.2 with ⟨rfl, hn⟩ | ⟨g, cap, cur, rfl, hg, hh, _⟩
    · omega
    · exact ⟨g, cap, rfl, hg, (Array.getElem?_eq_some_iff.1 hh).1⟩
  have hcell := hidS (fun j (hj : j < ps.length) => (by have := hown.cellAt j (by omega); simpa [strsV, hj] using this : w2.cell? ⟨g, j, none⟩ = some (.string ps[j])))
  clear hown
  go_wp2_with fail
  go_loopw [4, 5] (fun vn vi wr => ∃ i : Nat, i ≤ ps.length ∧ i ≤ 4 ∧ vi = .int .i64 (i : Int) ∧ vn = .int .i64 (addrTo ps i) ∧ Below w2.heap.size w2 wr) (fun _ vi _ => 4 - (intOf vi).toNat)
  case atStart => exact ⟨0, by omega, by omega, rfl, rfl, Below.refl _ _⟩
  case round =>
    obtain ⟨i, hi1, hi2, rfl, rfl, hbw⟩ := hrel
    have hbd := addrTo_bd ps i hi2
    by_cases hlt : i < ps.length ∧ i < 4
    · obtain ⟨hlt1, hlt2⟩ := hlt
      have hlt1' : (i : Int) < (ps.length : Int) := by omega
      have hlt2' : (i : Int) < 4 := by omega
      have hcw : wr.cell? ⟨g, i, none⟩ = some (.string ps[i]) := (hbw.cell (p := ⟨g, i, none⟩) hgl).trans (hcell.out i hlt1)
      have hq := hpart.out ps[i] (List.getElem_mem hlt1)
      have hE : Hid (addrTo ps (i + 1) = 256 * addrTo ps i + partN ps[i]) := by show _ = _; simp [addrTo, hlt1]
      have hpb := partN_bd ps[i]
      generalize ps[i] = q at hcw hq hE hpb
      go_wp2_with fail
      go_loopw [6, 7] (fun vk vj wq => ∃ j : Nat, j ≤ q.size ∧ j ≤ 4 ∧ vj = .int .i64 (j : Int) ∧ vk = .int .i64 (numTo q j) ∧ Below w2.heap.size w2 wq ∧ wq.cell? ⟨g, i, none⟩ = some (.string q)) (fun _ vj _ => 4 - (intOf vj).toNat)
      case atStart => exact ⟨0, by omega, by omega, rfl, rfl, hbw, hcw⟩
      case round =>
        rename_i wq
        obtain ⟨j, hj1, hj2, rfl, rfl, hbq, hcq⟩ := hrel
        have hnb := numTo_bd q j hj2
        by_cases hjl : j < q.size ∧ j < 4
        · obtain ⟨hjl1, hjl2⟩ := hjl
          have hjl1' : (j : Int) < (q.size : Int) := by omega
          have hjl2' : (j : Int) < 4 := by omega
          have hqb : q[j].toNat < 256 := q[j].toNat_lt
          have hN : Hid (numTo q (j + 1) = 10 * numTo q j + (q[j].toNat : Int) - 48) := by
            show _ = _
            simp only [numTo]
            rw [Array.getD_eq_getD_getElem?, Array.getElem?_eq_getElem (by simpa using hjl1)]
            rfl
          clear hcw
          go_wp2
          go_roundw
          case rel => exact ⟨j + 1, by omega, by omega, by go_num, by rw [hN.out], hbq, hcq⟩
          case measure => simp [intOf]; omega
        · have hpn : Hid (numTo q j = partN q) := by
            unfold partN
            rw [show min q.size 4 = j from by omega]
            rfl
          by_cases hjq : j < q.size
          · have hjq' : (j : Int) < (q.size : Int) := by omega
            have hj4 : ¬ (j : Int) < 4 := by omega
            clear hcw
            go_wp2
            go_roundw
            case rel => exact ⟨i + 1, by omega, by omega, by go_num, by rw [hE.out, ← hpn.out], hbq⟩
            case measure => simp [intOf]; omega
          · have hjq' : ¬ (j : Int) < (q.size : Int) := by omega
            clear hcw
            go_wp2
            go_roundw
            case rel => exact ⟨i + 1, by omega, by omega, by go_num, by rw [hE.out, ← hpn.out], hbq⟩
            case measure => simp [intOf]; omega
    · have hA : Hid (addrN s = addrTo ps i) := by
        unfold addrN
        rw [← HPS.out, show min ps.length 4 = i from by omega]
        rfl
      have hgw := blk_later (blk_later hG.out hb2) hbw
      have hLw := hidS ((hL.out.trans (hb2.mono hL.out.size)).trans (hbw.mono (Nat.le_trans hL.out.size hb2.size)))
      generalize addrTo ps i = n at hA hbd ⊢
      have hAT := hidS (specAddrText_any n)
      have hCd : Hid (codeA s = if s.toList.isEmpty = true ∨ ((addrAns n).toList == s.toList) = false then 3 else 0) := by unfold codeA; rw [hA.out]; rfl
      have hNN : Hid (numA s = if codeA s = 0 then n else 0) := by unfold numA; rw [hA.out]; rfl
      have g0 := blk_cell hgw
      have gf := blk_free hgw
      have hzA := addrAns_sz100 n
      clear hA hG hL hb2 hbw hcell hpart HPS
      have hop : (¬ (i : Int) < (ps.length : Int)) ∨ ((i : Int) < (ps.length : Int) ∧ ¬ (i : Int) < 4) := by omega
      rcases hop with hip | ⟨hip, hi4⟩
      all_goals
        clear hlt
        cases he : s.toList.isEmpty
        · go_wp2_with fail
          refine (hAT.out _).mono ?_
          rintro _ w5 ⟨rfl, hb5⟩
          have hL5 := hidS (hLw.out.trans (hb5.mono hLw.out.size))
          have hg5 := blk_later hgw hb5
          clear g0 gf
          have g0 := blk_cell hg5
          have gf := blk_free hg5
          clear hb5 hgw hLw
          cases heq : ((addrAns n).toList == s.toList)
          · have e1 : Hid (codeA s = 3) := by rw [hCd.out, if_pos (.inr heq)]; rfl
            have e2 : Hid (numA s = 0) := by rw [hNN.out, e1.out]; rfl
            clear hCd hNN
            go_wp2
            refine bodyPost_ret (v := .agg #[.int .i64 0, .int .i64 0, .int .i64 3]) (by simp [results, Tryz.results18, go_sem, g0]) rfl ⟨by rw [e1.out, e2.out], ?_⟩
            iterate 3 (refine below_at ?_ (Nat.le_refl _))
            exact hL5.out
          · have e1 : Hid (codeA s = 0) := by rw [hCd.out, if_neg (by rw [he, heq]; simp)]; rfl
            have e2 : Hid (numA s = n) := by rw [hNN.out, e1.out]; rfl
            clear hCd hNN
            go_wp2
            refine bodyPost_ret (v := .agg #[.int .i64 n, .int .i64 0, .int .i64 0]) (by simp [results, Tryz.results18, go_sem, g0]) rfl ⟨by rw [e1.out, e2.out], ?_⟩
            iterate 3 (refine below_at ?_ (Nat.le_refl _))
            exact hL5.out
        · have e1 : Hid (codeA s = 3) := by rw [hCd.out, if_pos (.inl he)]; rfl
          have e2 : Hid (numA s = 0) := by rw [hNN.out, e1.out]; rfl
          clear hCd hNN
          go_wp2
          refine bodyPost_ret (v := .agg #[.int .i64 0, .int .i64 0, .int .i64 3]) (by simp [results, Tryz.results18, go_sem, g0]) rfl ⟨by rw [e1.out, e2.out], ?_⟩
          iterate 3 (refine below_at ?_ (Nat.le_refl _))
          exact hLw.out

/-- what AddrRead is to answer -/
def readAC (s : ByteArray) : Int := if 8000 < s.size then 2 else codeA s
def readAN (s : ByteArray) : Int := if 8000 < s.size then 0 else numA s
theorem specAddrRead_any (s : ByteArray) (w : World) (hs : s.size ≤ maxLen) :
    Calls Tryz.prog 18 #[.string s] w fun e w' => e = .returned (.agg #[.int .i64 (readAN s), .int .i64 0, .int .i64 (readAC s)]) ∧ Below w.heap.size w w' := by
  have hs' : s.size ≤ 2 ^ 63 - 1 := hs
  by_cases h1 : 8000 < s.size
  · have e1 : readAC s = 2 := if_pos h1
    have e2 : readAN s = 0 := if_pos h1
    rw [e1, e2]
    clear e1 e2
    go_enter Tryz.func18, Tryz.ntmps18
    go_wp2
    go_returns
    exact ⟨rfl, by go_grown⟩
  · have e1 : readAC s = codeA s := if_neg h1
    have e2 : readAN s = numA s := if_neg h1
    rw [e1, e2]
    exact specAddrRead_in s w (by omega)
end Go.Proofs.YtedknnkdnccfmaaGreatDoor
end
