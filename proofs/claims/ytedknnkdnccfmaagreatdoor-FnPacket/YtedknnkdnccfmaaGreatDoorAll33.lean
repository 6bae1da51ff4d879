/- Proved here: impl.PacketRight answers whether a packet is right, whatever its Proto; all old memory stays (condition: the body is a string). · Proved here: impl.withWord answers a text with a word at those of the places that lie in it; all old memory stays (conditions: a word, the places lie in a list, nothing is too great). -/
import Derived.Test.YtedknnkdnccfmaaGreatDoorAll32
import Derived.Test.YtedknnkdnccfmaaGreatDoorAll6
import Derived.Test.YtedknnkdnccfmaaGreatDoorAll24
import Derived.Laws.AppendOwn
section
namespace Go.Proofs.YtedknnkdnccfmaaGreatDoor
open Go.ChangeShapes Go.WideShapes Go.ChangeAt Go.RowKit
open Go.ChangeMaps (open_string shut_string)
set_option linter.unusedVariables false

theorem allA2 (a b : Int) : allA [a, b] = (addrB a && addrB b) := by simp [allA]
theorem allW2 (a b : Int) : allW [a, b] = (wordB a && wordB b) := by simp [allW]

theorem right_tcp_no (p : Pk) (h6 : p.proto = 6) : allA [p.src, p.dst] = false ∨ 100 < p.body.size ∨ (allW [p.a, p.b] && allA [p.seq, p.ack] && flagB p.flags) = false → rightB p = false := by
  rw [allA2, allW2, allA2]
  rintro (h | h | h)
  · unfold rightB; rw [h]; simp
  · unfold rightB; rw [show decide (p.body.size ≤ 100) = false from by simp; omega]; simp
  · unfold rightB tcpB; rw [if_pos h6]; grind
theorem right_tcp_yes (p : Pk) (h6 : p.proto = 6) : allA [p.src, p.dst] = true → p.body.size ≤ 100 → (allW [p.a, p.b] && allA [p.seq, p.ack] && flagB p.flags) = true → rightB p = decide (p.a = p.a ∧ p.b = p.b ∧ 0 = p.kind ∧ p.flags = p.flags ∧ p.seq = p.seq ∧ p.ack = p.ack) := by
  rw [allA2, allW2, allA2]
  intro h1 h2 h3
  unfold rightB tcpB; rw [if_pos h6, h1, decide_eq_true h2]; grind
theorem right_udp_no (p : Pk) (h17 : p.proto = 17) : allA [p.src, p.dst] = false ∨ 100 < p.body.size ∨ (allW [p.a, p.b]) = false → rightB p = false := by
  rw [allA2, allW2]
  rintro (h | h | h)
  · unfold rightB; rw [h]; simp
  · unfold rightB; rw [show decide (p.body.size ≤ 100) = false from by simp; omega]; simp
  · unfold rightB udpB; rw [if_neg (by omega), if_pos h17]; grind
theorem right_udp_yes (p : Pk) (h17 : p.proto = 17) : allA [p.src, p.dst] = true → p.body.size ≤ 100 → (allW [p.a, p.b]) = true → rightB p = decide (p.a = p.a ∧ p.b = p.b ∧ 0 = p.kind ∧ 0 = p.flags ∧ 0 = p.seq ∧ 0 = p.ack) := by
  rw [allA2, allW2]
  intro h1 h2 h3
  unfold rightB udpB; rw [if_neg (by omega), if_pos h17, h1, decide_eq_true h2]; grind
theorem right_err_no (p : Pk) (h1 : p.proto = 1) (h3 : p.kind = 3) : allA [p.src, p.dst] = false ∨ 100 < p.body.size ∨ (decide (28 ≤ p.body.size)) = false → rightB p = false := by
  rw [allA2]
  rintro (h | h | h)
  · unfold rightB; rw [h]; simp
  · unfold rightB; rw [show decide (p.body.size ≤ 100) = false from by simp; omega]; simp
  · unfold rightB pingB; rw [if_neg (by omega), if_neg (by omega), if_pos h1, if_pos h3, h]; simp
theorem right_err_yes (p : Pk) (h1 : p.proto = 1) (h3 : p.kind = 3) : allA [p.src, p.dst] = true → p.body.size ≤ 100 → (decide (28 ≤ p.body.size)) = true → rightB p = decide (0 = p.a ∧ 0 = p.b ∧ 3 = p.kind ∧ 0 = p.flags ∧ 0 = p.seq ∧ 0 = p.ack) := by
  rw [allA2]
  intro g1 g2 g3
  unfold rightB pingB; rw [if_neg (by omega), if_neg (by omega), if_pos h1, if_pos h3, g1, g3, decide_eq_true g2]; grind
theorem right_echo_no (p : Pk) (h1 : p.proto = 1) (h3 : p.kind ≠ 3) : allA [p.src, p.dst] = false ∨ 100 < p.body.size ∨ ((decide (p.kind = 8) || decide (p.kind = 0)) && allW [p.a, p.seq]) = false → rightB p = false := by
  rw [allA2, allW2]
  rintro (h | h | h)
  · unfold rightB; rw [h]; simp
  · unfold rightB; rw [show decide (p.body.size ≤ 100) = false from by simp; omega]; simp
  · unfold rightB pingB; rw [if_neg (by omega), if_neg (by omega), if_pos h1, if_neg h3]; grind
theorem right_echo_yes (p : Pk) (h1 : p.proto = 1) (h3 : p.kind ≠ 3) : allA [p.src, p.dst] = true → p.body.size ≤ 100 → ((decide (p.kind = 8) || decide (p.kind = 0)) && allW [p.a, p.seq]) = true → rightB p = decide (p.a = p.a ∧ 0 = p.b ∧ p.kind = p.kind ∧ 0 = p.flags ∧ p.seq = p.seq ∧ 0 = p.ack) := by
  rw [allA2, allW2]
  intro g1 g2 g3
  unfold rightB pingB; rw [if_neg (by omega), if_neg (by omega), if_pos h1, if_neg h3, g1, decide_eq_true g2]; grind
theorem right_none (p : Pk) (h6 : p.proto ≠ 6) (h17 : p.proto ≠ 17) (h1 : p.proto ≠ 1) : rightB p = false := by
  unfold rightB; rw [if_neg h6, if_neg h17, if_neg h1]; simp

theorem implRight_none (p : Pk) (w : World) (h6 : p.proto ≠ 6) (h17 : p.proto ≠ 17) (h1 : p.proto ≠ 1) :
    Calls Tryz.prog 14 #[.agg #[.int .i64 p.src, .int .i64 p.dst, .int .i64 p.proto, .int .i64 p.a, .int .i64 p.b, .int .i64 p.kind, .int .i64 p.flags, .int .i64 p.seq, .int .i64 p.ack, .string p.body]] w fun e w' => e = .returned (.bool (rightB p)) ∧ Below w.heap.size w w' := by
  have e0 : Hid (rightB p = false) := right_none p h6 h17 h1
  have hB1 := hidS ((Below.refl w.heap.size w).alloc (Nat.le_refl _) (.cells #[.int .i64 p.src, .int .i64 p.dst, .int .i64 p.proto, .int .i64 p.a, .int .i64 p.b, .int .i64 p.kind, .int .i64 p.flags, .int .i64 p.seq, .int .i64 p.ack, .string p.body] 24))
  have hPT := hidS (fun W => partOf_none p W h6 h17 h1)
  clear h6 h17 h1
  go_enter Tryz.func14, Tryz.ntmps14
  go_wp2_with fail
  refine (hPT.out _).mono ?_
  rintro e w2 ⟨rfl, hb2⟩
  have hL := hidS (hB1.out.trans (hb2.mono hB1.out.size))
  clear hB1 hb2 hPT
  go_wp2_with fail
  go_ret
  exact ⟨ret_bool e0.out, hL.out⟩

theorem implRight_any (p : Pk) (w : World) (hs : p.body.size ≤ maxLen) :
    Calls Tryz.prog 14 #[.agg #[.int .i64 p.src, .int .i64 p.dst, .int .i64 p.proto, .int .i64 p.a, .int .i64 p.b, .int .i64 p.kind, .int .i64 p.flags, .int .i64 p.seq, .int .i64 p.ack, .string p.body]] w fun e w' => e = .returned (.bool (rightB p)) ∧ Below w.heap.size w w' := by
  by_cases h6 : p.proto = 6
  · exact implRight_gen p p.a p.b 0 p.flags p.seq p.ack 109 (.agg #[.int .i64 p.a, .int .i64 p.b, .int .i64 p.seq, .int .i64 p.ack, .int .i64 p.flags, .string p.body]) 184 183 _ w hs
      (fun W => partOf_tcp p W h6) (meth_tcp_right _) (meth_tcp_fields _) (enter_tcp_right _) (enter_tcp_fields _) (fun W => tcpRight_any p.a p.b p.seq p.ack p.flags p.body W) (fun W => by rw [h6]; exact tcpFields_any p.a p.b p.seq p.ack p.flags p.body W) (right_tcp_no p h6) (right_tcp_yes p h6)
  by_cases h17 : p.proto = 17
  · exact implRight_gen p p.a p.b 0 0 0 0 111 (.agg #[.int .i64 p.a, .int .i64 p.b, .string p.body]) 187 186 _ w hs
      (fun W => partOf_udp p W h17) (meth_udp_right _) (meth_udp_fields _) (enter_udp_right _) (enter_udp_fields _) (fun W => udpRight_any p.a p.b p.body W) (fun W => by rw [h17]; exact udpFields_any p.a p.b p.body W) (right_udp_no p h17) (right_udp_yes p h17)
  by_cases h1 : p.proto = 1
  · by_cases h3 : p.kind = 3
    · exact implRight_gen p 0 0 3 0 0 0 113 (.agg #[.string p.body]) 190 189 _ w hs
        (fun W => partOf_err p W h1 h3) (meth_err_right _) (meth_err_fields _) (enter_err_right _) (enter_err_fields _) (fun W => errRight_any p.body W hs) (fun W => by rw [h1]; exact errFields_any p.body W) (right_err_no p h1 h3) (right_err_yes p h1 h3)
    · exact implRight_gen p p.a 0 p.kind 0 p.seq 0 115 (.agg #[.int .i64 p.kind, .int .i64 p.a, .int .i64 p.seq, .string p.body]) 193 192 _ w hs
        (fun W => partOf_echo p W h1 h3) (meth_echo_right _) (meth_echo_fields _) (enter_echo_right _) (enter_echo_fields _) (fun W => echoRight_any p.kind p.a p.seq p.body W) (fun W => by rw [h1]; exact echoFields_any p.kind p.a p.seq p.body W) (right_echo_no p h1 h3) (right_echo_yes p h1 h3)
  · exact implRight_none p w h6 h17 h1
end Go.Proofs.YtedknnkdnccfmaaGreatDoor
end

section
namespace Go.Proofs.YtedknnkdnccfmaaGreatDoor
open Go.ChangeShapes Go.WideShapes Go.ChangeAt Go.RowKit
open Go.ChangeMaps (open_string shut_string)
set_option linter.unusedVariables false
set_option maxRecDepth 100000
set_option linter.unusedSimpArgs false

/-- a text with some bytes at a place, as far as the text goes -/
def putAt (m l : List UInt8) (k : Nat) : List UInt8 := if k < l.length then over l k (m.take (l.length - k)) else l
def putAll (m l : List UInt8) (ks : List Nat) : List UInt8 := ks.foldl (putAt m) l
theorem putAt_length (m l : List UInt8) (k : Nat) : (putAt m l k).length = l.length := by
  unfold putAt; split
  · rw [over_length (by simp; omega)]
  · rfl
theorem putAll_length (m : List UInt8) : ∀ (ks : List Nat) (l : List UInt8), (putAll m l ks).length = l.length
  | [], l => rfl
  | k :: ks, l => by show (putAll m (putAt m l k) ks).length = _; rw [putAll_length m ks, putAt_length]
theorem putAll_succ (m l : List UInt8) (ks : List Nat) (k : Nat) (h : k < ks.length) : putAll m l (ks.take (k + 1)) = putAt m (putAll m l (ks.take k)) ks[k] := by
  rw [List.take_succ_eq_append_getElem h, putAll, List.foldl_append]; rfl
/-- '[]byte(s)' -/
theorem bytes_row8 (w : World) (s : ByteArray) : ∃ cap w4, (convert 9 22 (.string s)).run Tryz.prog w = .ok (.slice (some ⟨w.heap.size, 0, none⟩) s.size cap) w4 ∧ s.size ≤ cap ∧ Below w.heap.size w w4 ∧ Row8 w.heap.size s.data.toList w4 := by
  have h := run_bytes_of_string (P := Tryz.prog) w 9 22 5 s Tryz.underlying9 Tryz.underlying22 Tryz.underlying5
  have hsz : s.size ≤ (bytesRow s (grownCap w s.size 0 5)).size := by simp [bytesRow]
  have hh : (w.drew.alloc (.cells (bytesRow s (grownCap w s.size 0 5)) 5 ((bytesRow s (grownCap w s.size 0 5)).size, (bytesRow s (grownCap w s.size 0 5)).size + 1))).heap[w.heap.size]? = some (.cells (bytesRow s (grownCap w s.size 0 5)) 5 ((bytesRow s (grownCap w s.size 0 5)).size, (bytesRow s (grownCap w s.size 0 5)).size + 1)) := heap_newG w.drew _
  refine ⟨_, _, h, grownCap_ge _ _ _ _, ((Below.refl _ _).drew).alloc (Nat.le_refl _) _, by simp, fun j hj0 => ?_⟩
  have hj : j < s.size := by simpa using hj0
  have hj' : j < s.data.size := hj
  refine ⟨?_, ?_⟩
  · simp only [World.cell?, hh, Option.isSome_none]
    simp [bytesRow, Array.getElem?_append]
    rw [if_pos hj, Array.getElem?_eq_getElem hj']
    rfl
  · simp only [World.frozen?, hh]
    simp
    omega

set_option maxHeartbeats 4000000 in
theorem withWord_x (s : ByteArray) (x : Int) (gp cp : Nat) (ks : List Nat) (w : World) (hx : wordB x = true) (hc : ∀ j, (h : j < ks.length) → w.cell? ⟨gp, j, none⟩ = some (.int .i64 (ks[j] : Int))) (hgp : gp < w.heap.size) (hl : ks.length ≤ 1000) (hk : ∀ k ∈ ks, k ≤ 100000) (hs : s.size ≤ 100000) :
    Calls Tryz.prog 43 #[.string s, .int .i64 x, .slice (some ⟨gp, 0, none⟩) ks.length cp] w fun e w' => e = .returned (.string ⟨(putAll (twoT x.toNat).data.toList s.data.toList ks).toArray⟩) ∧ Below w.heap.size w w' := by
  have HC := hidS hc
  have HK := hidS hk
  clear hc hk
  obtain ⟨cap, w4, hcv, hcap, hb4, hrow⟩ := bytes_row8 w s
  have HB4 := hidS hb4
  have HR4 := hidS hrow
  clear hb4 hrow
  go_enter Tryz.func43, Tryz.ntmps43
  go_wp2_with fail
  clear hcv
  go_loopw [14] (fun i wr => ∃ k : Nat, k ≤ ks.length ∧ i = .int .i64 k ∧ Hid (Below w.heap.size w wr ∧ Row8 w.heap.size (putAll (twoT x.toNat).data.toList s.data.toList (ks.take k)) wr)) (fun i _ => ks.length - (intOf i).toNat)
  case atStart => exact ⟨0, by omega, rfl, ⟨HB4.out, HR4.out⟩⟩
  case round =>
    obtain ⟨k, hk, rfl, hI⟩ := hrel
    have hlen : (putAll (twoT x.toNat).data.toList s.data.toList (ks.take k)).length = s.size := by rw [putAll_length]; simp
    by_cases h : k < ks.length
    · have h' : (k : Int) < (ks.length : Int) := by omega
      have hck := (hI.out.1.cell (p := ⟨gp, k, none⟩) hgp).trans (HC.out k h)
      have hkb := HK.out ks[k] (List.getElem_mem h)
      have hsu := hidS (putAll_succ (twoT x.toNat).data.toList s.data.toList ks k h)
      generalize ks[k] = at0 at *
      generalize putAll (twoT x.toNat).data.toList s.data.toList (ks.take k) = l at *
      by_cases hin : at0 < s.size
      · have hin' : (at0 : Int) < (s.size : Int) := by omega
        have hpa : Hid (putAt (twoT x.toNat).data.toList l at0 = over l at0 ((twoT x.toNat).data.toList.take (s.size - at0))) := by show _ = _; rw [putAt, if_pos (by omega), hlen]
        have hne : ¬ cap = at0 := by omega
        have hle0 : at0 ≤ s.size := by omega
        have hRow := hidS hI.out.2
        have hBel := hidS hI.out.1
        clear hI
        go_wp2_with fail
        refine grow_copyc 5 _ [.is (.slice (some ⟨w.heap.size, 0, none⟩) s.size cap), .is (.int .i64 (at0 : Int)), .is (.slice (some ⟨w.heap.size, at0, none⟩) (s.size - at0) (cap - at0)), .is (.int .i64 x), .is (.string (twoT x.toNat))] 2 4 24 26 w.heap.size at0 (s.size - at0) (cap - at0) (twoT x.toNat) l rfl rfl rfl (by kernel_rfl) (by kernel_rfl) (by kernel_rfl) rfl rfl rfl (by decide) (by decide) rfl rfl hRow.out (by rw [hlen]; omega) ?steps24 ?fin24
        case steps24 =>
          refine ⟨?_, ?_, ?_, ?_, ?_, trivial⟩
          · refine ⟨rfl, fun v W ρ hC kc kf ks ki kd => ?_⟩
            have t7 : ρ (.tmp 7) = .slice (some ⟨w.heap.size, 0, none⟩) s.size cap := ki 7 (by decide)
            simp [execOp, go_sem, t7]
            exact ⟨hC, Below.refl _ _, rfl⟩
          · refine ⟨rfl, fun v W ρ hC kc kf ks ki kd => ?_⟩
            have t9 : ρ (.tmp 9) = .int .i64 (at0 : Int) := ki 9 (by decide)
            simp [execOp, go_sem, t9]
            exact ⟨hC, Below.refl _ _, rfl⟩
          · refine ⟨rfl, fun v W ρ hC kc kf ks ki kd => ?_⟩
            have d0 : v 0 = .slice (some ⟨w.heap.size, 0, none⟩) s.size cap := kd _ (Array.mem_of_getElem? (i := 0) rfl) rfl
            have t22 : ρ (.tmp 22) = v 0 := ks 0 22 (by decide) rfl
            rw [d0] at t22
            have d1 : v 1 = .int .i64 (at0 : Int) := kd _ (Array.mem_of_getElem? (i := 1) rfl) rfl
            have t23 : ρ (.tmp 23) = v 1 := ks 1 23 (by decide) rfl
            rw [d1] at t23
            simp [execOp, go_sem, t22, t23, hne, hle0]
            exact ⟨hC, Below.refl _ _, rfl⟩
          · refine ⟨rfl, fun v W ρ hC kc kf ks ki kd => ?_⟩
            have t1 : ρ (.tmp 1) = .int .i64 x := ki 1 (by decide)
            simp [execOp, go_sem, t1]
            exact ⟨hC, Below.refl _ _, rfl⟩
          · refine ⟨rfl, fun v W ρ hC kc kf ks ki kd => ?_⟩
            have d3 : v 3 = .int .i64 x := kd _ (Array.mem_of_getElem? (i := 0) rfl) rfl
            have t25 : ρ (.tmp 25) = v 3 := ks 3 25 (by decide) rfl
            rw [d3] at t25
            simp [execOp, go_sem, t25, kf]
            exact Calls.mono (implWord_x _ _ (by assumption)) (fun e x h => ⟨_, h.1, hC.trans (h.2.mono hC.size), h.2, rfl⟩)
        intro v W hbel hoth hrow' hall
        simp [upto, Act.put]
        clear hall
        have hE : Hid (Below w.heap.size w W ∧ Row8 w.heap.size (putAll (twoT x.toNat).data.toList s.data.toList (ks.take (k + 1))) W) := ⟨hBel.out.trans (hbel _ (Nat.le_refl _)), by rw [hsu.out, hpa.out]; exact hrow'⟩
        clear hbel hoth hrow' hBel hRow hsu hpa
        go_wp2_with fail
        go_roundw
        case rel => exact ⟨k + 1, by omega, by go_num, hE⟩
        case measure => simp [intOf]; omega
      · have hin' : ¬ (at0 : Int) < (s.size : Int) := by omega
        have hE : Hid (Below w.heap.size w wr ∧ Row8 w.heap.size (putAll (twoT x.toNat).data.toList s.data.toList (ks.take (k + 1))) wr) := ⟨hI.out.1, by rw [hsu.out, putAt, if_neg (by omega)]; exact hI.out.2⟩
        clear hI hsu
        go_wp2_with fail
        go_roundw
        case rel => exact ⟨k + 1, by omega, by go_num, hE⟩
        case measure => simp [intOf]; omega
    · have h' : ¬ (k : Int) < (ks.length : Int) := by omega
      have hI2 := hI.out
      rw [List.take_of_length_le (by omega)] at hI2 hlen
      have hcv := BytesAt.conv cap hI2.2.bytes
      rw [hlen] at hcv
      have hE := hidS hI2.1
      clear hI hI2
      go_wp2_with fail
      go_ret
      exact ⟨rfl, hE.out⟩
end Go.Proofs.YtedknnkdnccfmaaGreatDoor
end
