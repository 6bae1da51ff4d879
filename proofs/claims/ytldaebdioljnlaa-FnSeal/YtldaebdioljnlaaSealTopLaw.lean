/- Proved here: laws.FnSeal returns true at every argument, and each argument reads afterwards as before (no conditions). -/
import Derived.Test.YtldaebdioljnlaaSealMath
import Derived.Test.YtldaebdioljnlaaSealDraws
import Derived.Test.YtldaebdioljnlaaBytesArg
import Derived.Test.YtldaebdioljnlaaBytesOf
import Derived.WalkKit
import Derived.WalkSpells
import Derived.ProofKit
import Derived.OpenShut
import Derived.ShutString
import Derived.Handy
import Derived.Below
import Derived.Deep.RegionWith
import Derived.ChangeOld
namespace Go.Proofs.Ytldaebdioljnlaa
open Go.ChangeShapes Go.WideShapes Go.ChangeAt Go.RowKit
open Go.ChangeMaps (open_string shut_string)
set_option linter.unusedVariables false

theorem hidF {q : Prop} (h : q) : Hid q := h

/-- a CRC goes on -/
theorem crc_on {t u : ByteArray} (h : t.size + u.size ≤ 8000) : crcAns (crcAns 0 t) u = crcAns 0 (t ++ u) := by
  have e1 : crcAns 0 t = ((crcOf 0 t.data.toList : Nat) : Int) := if_neg (by omega)
  have e2 : crcAns 0 (t ++ u) = ((crcOf 0 (t ++ u).data.toList : Nat) : Int) := if_neg (by rw [ByteArray.size_append]; omega)
  have hlt := crcOf_lt 0 t.data.toList (by omega)
  have e3 : crcAns ((crcOf 0 t.data.toList : Nat) : Int) u = ((crcOf ((crcOf 0 t.data.toList : Nat) : Int).toNat u.data.toList : Nat) : Int) := if_neg (by omega)
  rw [e1, e3, e2, Int.toNat_natCast, crcOf_on, app_data]

theorem turned_byte (c : UInt8) {r : Int} (h1 : 0 ≤ r) (h2 : r < 255) : ∃ d : UInt8, bits BinOp.xor IntKind.u8 (c.toNat : Int) (IntKind.u8.wrap (IntKind.i64.wrap (1 + r))) = (d.toNat : Int) ∧ c ≠ d := by
  obtain ⟨x, hx⟩ : ∃ x : Nat, (x : Int) = 1 + r := ⟨(1 + r).toNat, by omega⟩
  have e1 : IntKind.u8.wrap (IntKind.i64.wrap (1 + r)) = (x : Int) := by rw [IntWalk.i64_in _ (by omega), IntWalk.u8_in _ (by omega), hx]
  have hc : c.toNat < 256 := c.toNat_lt
  have hlt : c.toNat ^^^ x < 256 := Nat.xor_lt_two_pow (n := 8) (by omega) (by omega)
  have e2 : (UInt8.ofNat (c.toNat ^^^ x)).toNat = c.toNat ^^^ x := by
    generalize c.toNat ^^^ x = m at hlt
    simp; omega
  refine ⟨UInt8.ofNat (c.toNat ^^^ x), by rw [e1, u8_xor_nat _ _ hc (by omega), e2], fun e => ?_⟩
  have h3 := congrArg UInt8.toNat e
  rw [e2] at h3
  have h4 : c.toNat ^^^ 0 = c.toNat ^^^ x := by rw [Nat.xor_zero]; exact h3
  have := xor_cancel_left h4
  omega
theorem set_split {L : List UInt8} {n : Nat} (hn : n < L.length) (d : UInt8) : L = L.take n ++ L[n] :: L.drop (n + 1) ∧ L.set n d = L.take n ++ d :: L.drop (n + 1) := by
  refine ⟨?_, ?_⟩
  · rw [← List.drop_eq_getElem_cons hn, List.take_append_drop]
  · rw [List.set_eq_take_append_cons_drop, if_pos hn]
/-- the bytes of s with the one at n turned to d -/
theorem turned_cells {W : World} {B n : Nat} {s : ByteArray} {d : UInt8} (h : ∀ j, (hj : j < s.size) → W.cell? ⟨B, j, none⟩ = some (.int .u8 (s[j].toNat : Int))) (hn : n < s.size) :
    ∀ j, (hj : j < (s.data.toList.set n d).length) → (W.setCell ⟨B, n, none⟩ (.int .u8 (d.toNat : Int))).drew.cell? ⟨B, j, none⟩ = some (.int .u8 (((s.data.toList.set n d)[j]).toNat : Int)) := by
  intro j hj
  have hj' : j < s.size := by simpa using hj
  show (W.setCell ⟨B, n, none⟩ (.int .u8 (d.toNat : Int))).cell? ⟨B, j, none⟩ = _
  by_cases e : n = j
  · subst e
    rw [World.cell?_setCell_same _ _ _ (h n hn)]
    simp
  · have hne : (⟨B, n, none⟩ : Addr) ≠ ⟨B, j, none⟩ := by intro q; injection q; omega
    rw [World.cell?_setCell_other (h := hne), h j hj', List.getElem_set_ne e]
    rfl
theorem turned_later {W W' : World} {B : Nat} {L : List UInt8} (h : ∀ j, (hj : j < L.length) → W.cell? ⟨B, j, none⟩ = some (.int .u8 (L[j].toNat : Int))) (hB : B < W.heap.size) (hb : Below W.heap.size W W') :
    ∀ j, (hj : j < L.length) → W'.cell? ⟨B, j, none⟩ = some (.int .u8 (L[j].toNat : Int)) := fun j hj => (hb.cell (p := ⟨B, j, none⟩) hB).trans (h j hj)
theorem turned_conv {W : World} {B cap : Nat} {L : List UInt8} (h : ∀ j, (hj : j < L.length) → W.cell? ⟨B, j, none⟩ = some (.int .u8 (L[j].toNat : Int))) :
    (convert 22 9 (.slice (some ⟨B, 0, none⟩) L.length cap)).run Try.prog W = .ok (.string ⟨L.toArray⟩) W :=
  run_convert_bytes_back (P := Try.prog) W 22 9 5 ⟨B, 0, none⟩ cap L Try.underlying22 Try.underlying5 Try.underlying9 (fun j hj => by
    rw [Addr.add_lit, Nat.zero_add]; exact h j hj)

set_option maxRecDepth 100000 in
set_option maxHeartbeats 4000000 in
theorem sealTop_in (a0 : Option Addr) (len0 cap0 : Nat) (a1 : Option Addr) (len1 cap1 : Nat) (w : World) (h0 : RowAt w.heap.size a0 len0 w) (h1 : RowAt w.heap.size a1 len1 w) (hl0 : len0 ≤ 1048576) (hl1 : len1 ≤ 1048576) :
    Calls Try.prog 3 #[.slice a0 len0 cap0, .slice a1 len1 cap1] w fun e w' => e = .returned (.bool true) ∧ Below w.heap.size w w' := by
  have g0 : ¬ ((1048576 : Int) < (len0 : Int)) := by omega
  have g1 : ¬ ((1048576 : Int) < (len1 : Int)) := by omega
  go_enter Try.func3, Try.ntmps3
  go_wp2_with fail
  refine (drawSeal_any a0 len0 cap0 w h0 hl0).mono ?_
  rintro e w1 ⟨t, rfl, ht, hb1⟩
  have htm : t.size ≤ maxLen := by unfold maxLen; omega
  go_wp2_with fail
  refine (implSeal_any t w1 htm).mono ?_
  rintro e w2 ⟨rfl, hb2⟩
  go_wp2_with fail
  refine (specSeal_any t w2 htm).mono ?_
  rintro e w3 ⟨rfl, hb3⟩
  have hb4 : Below w.heap.size w w3 := (hb1.trans (hb2.mono hb1.size)).trans (hb3.mono (Nat.le_trans hb1.size hb2.size))
  have h1' := h1.later hb4
  clear h0 h1 hb1 hb2 hb3
  by_cases hbig : 7996 < t.size
  · have hE : sealB t = ⟨#[]⟩ := if_pos hbig
    rw [hE]
    clear hE
    go_wp2_with fail
    refine (drawCrcMore_any a1 len1 cap1 w3 h1' hl1).mono ?_
    rintro e w9 ⟨c, u, rfl, hu, hb9⟩
    have hB := hb4.trans (hb9.mono hb4.size)
    clear h1' hb4 hb9
    by_cases hfit : (8000 : Int) < (t.size : Int) + (u.size : Int)
    · go_wp2
      go_ret
      exact ⟨rfl, hB⟩
    · have hum : u.size ≤ maxLen := by unfold maxLen; omega
      have hon := hidF (crc_on (t := t) (u := u) (by omega))
      go_wp2_with fail
      refine (implCrcMore_any c u _ hum).mono ?_
      rintro e x1 ⟨rfl, rfl⟩
      go_wp2_with fail
      refine (specCrcMore_any c u _ hum).mono ?_
      rintro e x2 ⟨rfl, rfl⟩
      go_wp2_with fail
      refine (implCrc_any t _ htm).mono ?_
      rintro e x3 ⟨rfl, rfl⟩
      go_wp2_with fail
      refine (implCrcMore_any _ u _ hum).mono ?_
      rintro e x4 ⟨rfl, rfl⟩
      go_wp2_with fail
      refine (implCrc_any (t ++ u) _ (by rw [ByteArray.size_append]; unfold maxLen; omega)).mono ?_
      rintro e x5 ⟨rfl, rfl⟩
      rw [hon.out]
      go_wp2
      go_ret
      exact ⟨rfl, hB⟩
  · obtain ⟨k1, k2, k3⟩ := seal_good hbig
    have hU1 : ∀ W, Calls Try.prog 8 #[.string (sealB t)] W fun e w' => e = .returned (.agg #[.string t, .int .i64 0, .int .i64 0]) ∧ Below W.heap.size W w' := by
      intro W
      have e1 : openT (sealB t) = t := by unfold openT; rw [if_neg (by omega), if_pos k1, k3]
      have e2 : openC (sealB t) = 0 := by unfold openC; rw [if_neg (by omega), if_neg (by omega), if_pos k1]
      have := implUnseal_any (sealB t) W (by unfold maxLen; omega)
      rw [e1, e2] at this
      exact this
    have hU2 : ∀ (W : World) (s' : ByteArray) (l m : List UInt8) (c d : UInt8), (sealB t).data.toList = l ++ c :: m → s'.data.toList = l ++ d :: m → c ≠ d → Calls Try.prog 8 #[.string s'] W fun e w' => e = .returned (.agg #[.string ⟨#[]⟩, .int .i64 0, .int .i64 5]) ∧ Below W.heap.size W w' := by
      intro W s' l m c d h1 h2 h3
      have hb := turned_bad hbig h1 h2 h3
      have hsz : s'.size = (sealB t).size := by
        have q1 := congrArg List.length h1
        have q2 := congrArg List.length h2
        simp at q1 q2
        omega
      have e1 : openT s' = ⟨#[]⟩ := by unfold openT; rw [if_neg (by omega), if_neg (by rw [hb]; simp)]
      have e2 : openC s' = 5 := by unfold openC; rw [if_neg (by omega), if_neg (by omega), if_neg (by rw [hb]; simp)]
      have := implUnseal_any s' W (by unfold maxLen; omega)
      rw [e1, e2] at this
      exact this
    have hne : (sealB t).toList.isEmpty = false := by
      rw [ByteArray.toList_eq]
      have : (sealB t).data.toList.length = (sealB t).size := by simp
      cases hq : (sealB t).data.toList with
      | nil => rw [hq] at this; simp at this; omega
      | cons x y => rfl
    generalize sealB t = s at *
    have HU1 := hidF hU1
    have HU2 := hidF hU2
    have hs1 : (4 : Int) ≤ (s.size : Int) := by omega
    have hs2 : (s.size : Int) ≤ 8000 := by omega
    obtain ⟨cap, w4, hcv, hb5, hz5, hcell, hfz⟩ := bytes_of w3 s
    have h1'' := h1'.later hb5
    clear k1 k2 k3 hU1 hU2
    have H1 := hidF h1'
    clear h1'
    have HC := hidF hcell
    have HFZ := hidF hfz
    clear hcell hfz
    go_wp2_with fail
    refine (lwAt_any w4.heap.size a1 len1 cap1 0 _ w4 h1'' hl1 (by omega) (by omega) (by omega)).mono ?_
    rintro e w5 ⟨k, rfl, hk1, hk2, rfl⟩
    obtain ⟨n, rfl⟩ : ∃ n : Nat, k = n := ⟨k.toNat, by omega⟩
    have hn : n < s.size := by omega
    have hck := HC.out n hn
    have hfk := HFZ.out n hn
    have hcb : s[n].toNat < 256 := s[n].toNat_lt
    have hcb' : (s[n].toNat : Int) < 256 := by omega
    have hn' : (n : Int) < (s.size : Int) := by omega
    have HW : Hid (∀ W : World, RowAt w5.heap.size a1 len1 W → Calls Try.prog 7 #[.slice a1 len1 cap1, .int .i64 1, .int .i64 255] W fun e w' => AtOf 255 W e w') := fun W hW => lwAt_any w5.heap.size a1 len1 cap1 1 255 W hW hl1 (by omega) (by omega) (by omega)
    clear hk2 hk1
    go_wp2
    go_region_with (go_at_call 7; refine (HW.out _ ?_).mono ?_; exact h1''; rintro e w6 ⟨r, rfl, hr1, hr2, rfl⟩)
    all_goals
      obtain ⟨d, hd1, hd2⟩ := turned_byte s[n] hr1 (show r < 255 by omega)
      rw [hd1]
      have hB6 : Below w3.heap.size w3 (w5.setCell ⟨w3.heap.size, n, none⟩ (.int .u8 (d.toNat : Int))).drew := (hb5.setCell (Nat.le_refl _) _).drew
      have hz6 : w3.heap.size < (w5.setCell ⟨w3.heap.size, n, none⟩ (.int .u8 (d.toNat : Int))).drew.heap.size := by simpa [World.setCell] using hz5
      have hc6 := hidF (turned_cells (d := d) HC.out hn)
      generalize (w5.setCell ⟨w3.heap.size, n, none⟩ (.int .u8 (d.toNat : Int))).drew = w6 at hB6 hz6 hc6 ⊢
      have h16 := hidF (RowAt.later H1.out hB6)
      have hb6 := hb4.trans (hB6.mono hb4.size)
      have HD := hidF hd2
      clear hcv hb5 hz5 h1'' HC HFZ hck hfk hcb hcb' HW hr1 hr2 hd1 hd2 H1
      go_wp2_with fail
      refine (HU1.out _).mono ?_
      rintro e w7 ⟨rfl, hb7⟩
      have hc7 := turned_later hc6.out hz6 hb7
      have hcv7 := turned_conv (cap := cap) hc7
      have hlen7 : (s.data.toList.set n d).length = s.size := by simp
      rw [hlen7] at hcv7
      clear hlen7 hc7
      obtain ⟨q1, q2⟩ := set_split (L := s.data.toList) (n := n) (by simpa using hn) d
      have hU := HU2.out w7 ⟨(s.data.toList.set n d).toArray⟩ _ _ _ _ q1 q2 (show s.data.toList[n] ≠ d from HD.out)
      have HU := hidF hU
      clear q1 q2 hU
      go_wp2_with fail
      refine HU.out.mono ?_
      rintro e w8 ⟨rfl, hb8⟩
      have hb68 : Below w6.heap.size w6 w8 := hb7.trans (hb8.mono hb7.size)
      have h18 := RowAt.later h16.out hb68
      have hbw8 := hb6.trans (hb68.mono hb6.size)
      clear HU HU1 HU2 hcv7 hb7 hb8 hc6 hb68 h16 hb6
      have hfd : ∀ W : World, (Instr.field 27 (.agg #[.string ⟨#[]⟩, .int .i64 0, .int .i64 5]) 2).run Try.prog W = .ok (.int .i64 5) W := fun _ => by kernel_rfl
      go_wp2_with fail
      refine (drawCrcMore_any a1 len1 cap1 w8 h18 hl1).mono ?_
      rintro e w9 ⟨c, u, rfl, hu, hb9⟩
      have hB := hbw8.trans (hb9.mono hbw8.size)
      clear h18 hbw8 hb9
      by_cases hfit : (8000 : Int) < (t.size : Int) + (u.size : Int)
      · go_wp2
        go_ret
        exact ⟨rfl, hB⟩
      · have hum : u.size ≤ maxLen := by unfold maxLen; omega
        have hon := hidF (crc_on (t := t) (u := u) (by omega))
        go_wp2_with fail
        refine (implCrcMore_any c u _ hum).mono ?_
        rintro e x1 ⟨rfl, rfl⟩
        go_wp2_with fail
        refine (specCrcMore_any c u _ hum).mono ?_
        rintro e x2 ⟨rfl, rfl⟩
        go_wp2_with fail
        refine (implCrc_any t _ htm).mono ?_
        rintro e x3 ⟨rfl, rfl⟩
        go_wp2_with fail
        refine (implCrcMore_any _ u _ hum).mono ?_
        rintro e x4 ⟨rfl, rfl⟩
        go_wp2_with fail
        refine (implCrc_any (t ++ u) _ (by rw [ByteArray.size_append]; unfold maxLen; omega)).mono ?_
        rintro e x5 ⟨rfl, rfl⟩
        rw [hon.out]
        go_wp2
        go_ret
        exact ⟨rfl, hB⟩

theorem sealTop_walk (a0 : Option Addr) (len0 cap0 : Nat) (z0 : List Int) (a1 : Option Addr) (len1 cap1 : Nat) (z1 : List Int) (w : World) (w0 : IsRow .u8 w a0 len0 cap0 z0) (w1 : IsRow .u8 w a1 len1 cap1 z1) :
    Calls Try.prog 3 #[.slice a0 len0 cap0, .slice a1 len1 cap1] w fun e w' => e = .returned (.bool true) ∧ Below w.heap.size w w' := by
  by_cases h0 : len0 ≤ 1048576
  · by_cases h1 : len1 ≤ 1048576
    · exact sealTop_in a0 len0 cap0 a1 len1 cap1 w (rowAt_of w0) (rowAt_of w1) h0 h1
    · have g0 : ¬ ((1048576 : Int) < (len0 : Int)) := by omega
      have g1 : (1048576 : Int) < (len1 : Int) := by omega
      clear w0 w1 h0 h1
      go_enter Try.func3, Try.ntmps3
      go_wp2
      go_ret
      exact ⟨rfl, Below.refl _ _⟩
  · have g0 : (1048576 : Int) < (len0 : Int) := by omega
    clear w0 w1 h0
    go_enter Try.func3, Try.ntmps3
    go_wp2
    go_ret
    exact ⟨rfl, Below.refl _ _⟩

theorem laidOut_fnSeal : laidOutB Try.prog = true := by kernel_rfl
theorem own_fnSeal : ownKnob Try.prog.godebug = none := by kernel_rfl
set_option maxRecDepth 100000 in
theorem lifted_fnSeal (os : Os) (started : os.Started) (H : Type) (enc : TypeId × Value → H) :
    ReturnsInHanded {} Try.checked os 3 .any (Rows.fnSealSpec.pre6 enc Try.prog Try.f3 Rows.fnSealRow.domain false) (Rows.fnSealSpec.post enc Try.prog Try.f3 false true false false) := by
  refine returnsInHanded_of_change (C := Try.checked) own_fnSeal started (by kernel_rfl) Try.func3
    (ChangeSpec.witness6 (enc := enc) (C := Try.checked) false ⟨#[], #[.slice none 0 0, .slice none 0 0], []⟩ 8 (by kernel_rfl) (by kernel_rfl) (by kernel_rfl) (by kernel_rfl)) ?_
  intro W base args ds gs before hval0 hW hcnd _
  have hval : ∀ (j : Nat) t v, Try.f3.params[j]? = some t → args[j]? = some v → Value.okWide Try.prog W .any base t v := hval0
  have hW' := hW
  obtain ⟨p, q, hA0, hV, rfl, hfz, hnd⟩ := hW
  have hA : DataW.TrodAll enc Try.prog W 0 (fun _ => true) true Try.f3.params.toList args.toList ds p := hA0
  rw [Try.params3] at hA hval
  obtain ⟨v0, vs0, d0, ds0, p0, q0, hargs, rfl, rfl, h0, r0⟩ := trodAll_cons hA
  obtain ⟨v1, vs1, d1, ds1, p1, q1, rfl, rfl, rfl, h1, r1⟩ := trodAll_cons r0
  obtain ⟨rfl, rfl, rfl⟩ := trodAll_nil r1
  obtain rfl : args = #[v0, v1] := by cases args; simp_all
  obtain ⟨rfl, rfl⟩ := trodVars_none hV
  obtain ⟨a0, len0, cap0, rfl⟩ := okWide_slice Try.underlying22 (hval 0 22 v0 rfl rfl)
  have k0 := h0
  have lt0 : ∀ x ∈ p0, x.block < W.heap.size := by obtain ⟨m, hm⟩ := k0; exact DataW.trod_lt m _ _ _ hm
  obtain ⟨z0, w0⟩ : ∃ zs, IsRow .u8 W a0 len0 cap0 zs := by
    obtain ⟨fuel, hf⟩ := h0
    rcases open_ints Try.underlying22 Try.underlying5 (by kernel_rfl) hf with ⟨hcs, _⟩ | ⟨x, l, c, zs, hcs, _, hl, hm, hz, _, hcell, hwz⟩
    · simp [Value.cells] at hcs
      obtain ⟨rfl, rfl, rfl⟩ := hcs
      exact ⟨[], .inl ⟨rfl, rfl, rfl, rfl⟩⟩
    · simp [Value.cells] at hcs
      obtain ⟨rfl, rfl, rfl⟩ := hcs
      exact ⟨zs, .inr ⟨_, rfl, hl, hm, by simpa using hz, hcell, hwz⟩⟩
  obtain ⟨a1, len1, cap1, rfl⟩ := okWide_slice Try.underlying22 (hval 1 22 v1 rfl rfl)
  have k1 := h1
  have lt1 : ∀ x ∈ p1, x.block < W.heap.size := by obtain ⟨m, hm⟩ := k1; exact DataW.trod_lt m _ _ _ hm
  obtain ⟨z1, w1⟩ : ∃ zs, IsRow .u8 W a1 len1 cap1 zs := by
    obtain ⟨fuel, hf⟩ := h1
    rcases open_ints Try.underlying22 Try.underlying5 (by kernel_rfl) hf with ⟨hcs, _⟩ | ⟨x, l, c, zs, hcs, _, hl, hm, hz, _, hcell, hwz⟩
    · simp [Value.cells] at hcs
      obtain ⟨rfl, rfl, rfl⟩ := hcs
      exact ⟨[], .inl ⟨rfl, rfl, rfl, rfl⟩⟩
    · simp [Value.cells] at hcs
      obtain ⟨rfl, rfl, rfl⟩ := hcs
      exact ⟨zs, .inr ⟨_, rfl, hl, hm, by simpa using hz, hcell, hwz⟩⟩
  clear hA0 hval0
  refine (sealTop_walk a0 len0 cap0 z0 a1 len1 cap1 z1 W w0 w1).mono fun e W' ⟨he, bel⟩ => ?_
  subst he
  exact ⟨_, rfl, _, _, _, [], _, [], hW', trodAll_mk1 (shut_bool Try.underlying4 _), (trodAll_cons_mk (Below.trod laidOut_fnSeal (by kernel_rfl) (of_decide_eq_true (by kernel_rfl)) k0 bel lt0) (trodAll_cons_mk (Below.trod laidOut_fnSeal (by kernel_rfl) (of_decide_eq_true (by kernel_rfl)) k1 bel lt1) trodAll_mk0)), rfl, bel.frame _, fun h => by cases h⟩

theorem sealTop_holds : Rows.FnSealSaid :=
  OpenClaim.holds_of_wide 3 Try.f3 rfl rfl rfl rfl rfl rfl rfl ⟨rfl, rfl, rfl, rfl, rfl⟩ rfl rfl rfl rfl rfl (by kernel_rfl) Try.func3 (by kernel_rfl)
    (of_decide_eq_true (by kernel_rfl)) (by unfold Func.isWrapper; first | (rw [if_pos (by decide +kernel)]; kernel_rfl) | (rw [if_neg (by decide +kernel)]; exact ⟨rfl, rfl⟩))
    (fun os started H enc _ => lifted_fnSeal os started H enc)
#print axioms sealTop_holds
end Go.Proofs.Ytldaebdioljnlaa
