/- Proved here: impl.withWord answers a text with a word at those of the places that lie in it; all old memory stays (conditions: a word, the places lie in a list, nothing is too great). · Proved here: impl.checkAt answers the place of a part's check (of each kind of part, and of none); nothing changes (no conditions). -/
import Derived.Test.YtokjhfgbnpdfnaaDoorAll7
import Derived.Test.YtokjhfgbnpdfnaaDoorAll26
import Derived.Test.YtokjhfgbnpdfnaaDoorAll27
import Derived.Laws.AppendOwn
import Derived.Test.YtokjhfgbnpdfnaaDoorAll24
section
namespace Go.Proofs.YtokjhfgbnpdfnaaDoor
open Go.ChangeShapes Go.WideShapes Go.ChangeAt Go.RowKit
open Go.ChangeMaps (open_string shut_string)
set_option linter.unusedVariables false
set_option maxRecDepth 100000
set_option linter.unusedSimpArgs false

/-- a text with some bytes at a place, as far as the text goes -/
def putAt (m l : List UInt8) (k : Nat) : List UInt8 := if k < l.length then over l k (m.take (l.length - k)) else l
def putAll (m l : List UInt8) (ks : List Nat) : List UInt8 := ks.foldl (putAt m) l
theorem putAt_length (m l : List UInt8) (k : Nat) : (putAt m l k).length = l.length := by
  unfold putAt; split
  · rw [over_length (by simp; omega)]
  · rfl
theorem putAll_length (m : List UInt8) : ∀ (ks : List Nat) (l : List UInt8), (putAll m l ks).length = l.length
  | [], l => rfl
  | k :: ks, l => by show (putAll m (putAt m l k) ks).length = _; rw [putAll_length m ks, putAt_length]
theorem putAll_succ (m l : List UInt8) (ks : List Nat) (k : Nat) (h : k < ks.length) : putAll m l (ks.take (k + 1)) = putAt m (putAll m l (ks.take k)) ks[k] := by
  rw [List.take_succ_eq_append_getElem h, putAll, List.foldl_append]; rfl
/-- '[]byte(s)' -/
theorem bytes_row8 (w : World) (s : ByteArray) : ∃ cap w4, (convert 9 22 (.string s)).run Tryd.prog w = .ok (.slice (some ⟨w.heap.size, 0, none⟩) s.size cap) w4 ∧ s.size ≤ cap ∧ Below w.heap.size w w4 ∧ Row8 w.heap.size s.data.toList w4 := by
  have h := run_bytes_of_string (P := Tryd.prog) w 9 22 5 s Tryd.underlying9 Tryd.underlying22 Tryd.underlying5
  have hsz : s.size ≤ (bytesRow s (grownCap w s.size 0 5)).size := by simp [bytesRow]
  have hh : (w.drew.alloc (.cells (bytesRow s (grownCap w s.size 0 5)) 5 ((bytesRow s (grownCap w s.size 0 5)).size, (bytesRow s (grownCap w s.size 0 5)).size + 1))).heap[w.heap.size]? = some (.cells (bytesRow s (grownCap w s.size 0 5)) 5 ((bytesRow s (grownCap w s.size 0 5)).size, (bytesRow s (grownCap w s.size 0 5)).size + 1)) := heap_newG w.drew _
  refine ⟨_, _, h, grownCap_ge _ _ _ _, ((Below.refl _ _).drew).alloc (Nat.le_refl _) _, by simp, fun j hj0 => ?_⟩
  have hj : j < s.size := by simpa using hj0
  have hj' : j < s.data.size := hj
  refine ⟨?_, ?_⟩
  · simp only [World.cell?, hh, Option.isSome_none]
    simp [bytesRow, Array.getElem?_append]
    rw [if_pos hj, Array.getElem?_eq_getElem hj']
    rfl
  · simp only [World.frozen?, hh]
    simp
    omega

set_option maxHeartbeats 4000000 in
theorem withWord_x (s : ByteArray) (x : Int) (gp cp : Nat) (ks : List Nat) (w : World) (hx : wordB x = true) (hc : ∀ j, (h : j < ks.length) → w.cell? ⟨gp, j, none⟩ = some (.int .i64 (ks[j] : Int))) (hgp : gp < w.heap.size) (hl : ks.length ≤ 1000) (hk : ∀ k ∈ ks, k ≤ 100000) (hs : s.size ≤ 100000) :
    Calls Tryd.prog 65 #[.string s, .int .i64 x, .slice (some ⟨gp, 0, none⟩) ks.length cp] w fun e w' => e = .returned (.string ⟨(putAll (twoT x.toNat).data.toList s.data.toList ks).toArray⟩) ∧ Below w.heap.size w w' := by
  have HC := hidS hc
  have HK := hidS hk
  clear hc hk
  obtain ⟨cap, w4, hcv, hcap, hb4, hrow⟩ := bytes_row8 w s
  have HB4 := hidS hb4
  have HR4 := hidS hrow
  clear hb4 hrow
  go_enter Tryd.func65, Tryd.ntmps65
  go_wp2_with fail
  clear hcv
  go_loopw [14] (fun i wr => ∃ k : Nat, k ≤ ks.length ∧ i = .int .i64 k ∧ Hid (Below w.heap.size w wr ∧ Row8 w.heap.size (putAll (twoT x.toNat).data.toList s.data.toList (ks.take k)) wr)) (fun i _ => ks.length - (intOf i).toNat)
  case atStart => exact ⟨0, by omega, rfl, ⟨HB4.out, HR4.out⟩⟩
  case round =>
    obtain ⟨k, hk, rfl, hI⟩ := hrel
    have hlen : (putAll (twoT x.toNat).data.toList s.data.toList (ks.take k)).length = s.size := by rw [putAll_length]; simp
    by_cases h : k < ks.length
    · have h' : (k : Int) < (ks.length : Int) := by omega
      have hck := (hI.out.1.cell (p := ⟨gp, k, none⟩) hgp).trans (HC.out k h)
      have hkb := HK.out ks[k] (List.getElem_mem h)
      have hsu := hidS (putAll_succ (twoT x.toNat).data.toList s.data.toList ks k h)
      generalize ks[k] = at0 at *
      generalize putAll (twoT x.toNat).data.toList s.data.toList (ks.take k) = l at *
      by_cases hin : at0 < s.size
      · have hin' : (at0 : Int) < (s.size : Int) := by omega
        have hpa : Hid (putAt (twoT x.toNat).data.toList l at0 = over l at0 ((twoT x.toNat).data.toList.take (s.size - at0))) := by show _ = _; rw [putAt, if_pos (by omega), hlen]
        have hne : ¬ cap = at0 := by omega
        have hle0 : at0 ≤ s.size := by omega
        have hRow := hidS hI.out.2
        have hBel := hidS hI.out.1
        clear hI
        go_wp2_with fail
        refine grow_copyc 5 _ [.is (.slice (some ⟨w.heap.size, 0, none⟩) s.size cap), .is (.int .i64 (at0 : Int)), .is (.slice (some ⟨w.heap.size, at0, none⟩) (s.size - at0) (cap - at0)), .is (.int .i64 x), .is (.string (twoT x.toNat))] 2 4 24 26 w.heap.size at0 (s.size - at0) (cap - at0) (twoT x.toNat) l rfl rfl rfl (by kernel_rfl) (by kernel_rfl) (by kernel_rfl) rfl rfl rfl (by decide) (by decide) rfl rfl hRow.out (by rw [hlen]; omega) ?steps24 ?fin24
        case steps24 =>
          refine ⟨?_, ?_, ?_, ?_, ?_, trivial⟩
          · refine ⟨rfl, fun v W ρ hC kc kf ks ki kd => ?_⟩
            have t7 : ρ (.tmp 7) = .slice (some ⟨w.heap.size, 0, none⟩) s.size cap := ki 7 (by decide)
            simp [execOp, go_sem, t7]
            exact ⟨hC, Below.refl _ _, rfl⟩
          · refine ⟨rfl, fun v W ρ hC kc kf ks ki kd => ?_⟩
            have t9 : ρ (.tmp 9) = .int .i64 (at0 : Int) := ki 9 (by decide)
            simp [execOp, go_sem, t9]
            exact ⟨hC, Below.refl _ _, rfl⟩
          · refine ⟨rfl, fun v W ρ hC kc kf ks ki kd => ?_⟩
            have d0 : v 0 = .slice (some ⟨w.heap.size, 0, none⟩) s.size cap := kd _ (Array.mem_of_getElem? (i := 0) rfl) rfl
            have t22 : ρ (.tmp 22) = v 0 := ks 0 22 (by decide) rfl
            rw [d0] at t22
            have d1 : v 1 = .int .i64 (at0 : Int) := kd _ (Array.mem_of_getElem? (i := 1) rfl) rfl
            have t23 : ρ (.tmp 23) = v 1 := ks 1 23 (by decide) rfl
            rw [d1] at t23
            simp [execOp, go_sem, t22, t23, hne, hle0]
            exact ⟨hC, Below.refl _ _, rfl⟩
          · refine ⟨rfl, fun v W ρ hC kc kf ks ki kd => ?_⟩
            have t1 : ρ (.tmp 1) = .int .i64 x := ki 1 (by decide)
            simp [execOp, go_sem, t1]
            exact ⟨hC, Below.refl _ _, rfl⟩
          · refine ⟨rfl, fun v W ρ hC kc kf ks ki kd => ?_⟩
            have d3 : v 3 = .int .i64 x := kd _ (Array.mem_of_getElem? (i := 0) rfl) rfl
            have t25 : ρ (.tmp 25) = v 3 := ks 3 25 (by decide) rfl
            rw [d3] at t25
            simp [execOp, go_sem, t25, kf]
            exact Calls.mono (implWord_x _ _ (by assumption)) (fun e x h => ⟨_, h.1, hC.trans (h.2.mono hC.size), h.2, rfl⟩)
        intro v W hbel hoth hrow' hall
        simp [upto, Act.put]
        clear hall
        have hE : Hid (Below w.heap.size w W ∧ Row8 w.heap.size (putAll (twoT x.toNat).data.toList s.data.toList (ks.take (k + 1))) W) := ⟨hBel.out.trans (hbel _ (Nat.le_refl _)), by rw [hsu.out, hpa.out]; exact hrow'⟩
        clear hbel hoth hrow' hBel hRow hsu hpa
        go_wp2_with fail
        go_roundw
        case rel => exact ⟨k + 1, by omega, by go_num, hE⟩
        case measure => simp [intOf]; omega
      · have hin' : ¬ (at0 : Int) < (s.size : Int) := by omega
        have hE : Hid (Below w.heap.size w wr ∧ Row8 w.heap.size (putAll (twoT x.toNat).data.toList s.data.toList (ks.take (k + 1))) wr) := ⟨hI.out.1, by rw [hsu.out, putAt, if_neg (by omega)]; exact hI.out.2⟩
        clear hI hsu
        go_wp2_with fail
        go_roundw
        case rel => exact ⟨k + 1, by omega, by go_num, hE⟩
        case measure => simp [intOf]; omega
    · have h' : ¬ (k : Int) < (ks.length : Int) := by omega
      have hI2 := hI.out
      rw [List.take_of_length_le (by omega)] at hI2 hlen
      have hcv := BytesAt.conv cap hI2.2.bytes
      rw [hlen] at hcv
      have hE := hidS hI2.1
      clear hI hI2
      go_wp2_with fail
      go_ret
      exact ⟨rfl, hE.out⟩
end Go.Proofs.YtokjhfgbnpdfnaaDoor
end

section
namespace Go.Proofs.YtokjhfgbnpdfnaaDoor
open Go.ChangeShapes Go.WideShapes Go.ChangeAt Go.RowKit
open Go.ChangeMaps (open_string shut_string)
set_option linter.unusedVariables false
set_option maxRecDepth 100000

theorem as_tcp_tcp (v : Value) (W : World) : (Instr.typeAssert (.iface 128 v) 97 128 true).run Tryd.prog W = .ok (.tuple #[v, .bool true]) W := by kernel_rfl
theorem as_tcp_udp (v : Value) (W : World) : (Instr.typeAssert (.iface 128 v) 97 130 true).run Tryd.prog W = .ok (.tuple #[.agg #[.int .i64 0, .int .i64 0, .string ⟨#[]⟩], .bool false]) W := by kernel_rfl
theorem as_udp_tcp (v : Value) (W : World) : (Instr.typeAssert (.iface 130 v) 97 128 true).run Tryd.prog W = .ok (.tuple #[.agg #[.int .i64 0, .int .i64 0, .int .i64 0, .int .i64 0, .int .i64 0, .string ⟨#[]⟩], .bool false]) W := by kernel_rfl
theorem as_udp_udp (v : Value) (W : World) : (Instr.typeAssert (.iface 130 v) 97 130 true).run Tryd.prog W = .ok (.tuple #[v, .bool true]) W := by kernel_rfl
theorem as_err_tcp (v : Value) (W : World) : (Instr.typeAssert (.iface 132 v) 97 128 true).run Tryd.prog W = .ok (.tuple #[.agg #[.int .i64 0, .int .i64 0, .int .i64 0, .int .i64 0, .int .i64 0, .string ⟨#[]⟩], .bool false]) W := by kernel_rfl
theorem as_err_udp (v : Value) (W : World) : (Instr.typeAssert (.iface 132 v) 97 130 true).run Tryd.prog W = .ok (.tuple #[.agg #[.int .i64 0, .int .i64 0, .string ⟨#[]⟩], .bool false]) W := by kernel_rfl
theorem as_echo_tcp (v : Value) (W : World) : (Instr.typeAssert (.iface 134 v) 97 128 true).run Tryd.prog W = .ok (.tuple #[.agg #[.int .i64 0, .int .i64 0, .int .i64 0, .int .i64 0, .int .i64 0, .string ⟨#[]⟩], .bool false]) W := by kernel_rfl
theorem as_echo_udp (v : Value) (W : World) : (Instr.typeAssert (.iface 134 v) 97 130 true).run Tryd.prog W = .ok (.tuple #[.agg #[.int .i64 0, .int .i64 0, .string ⟨#[]⟩], .bool false]) W := by kernel_rfl
theorem as_none_tcp (W : World) : (Instr.typeAssert .nilIface 97 128 true).run Tryd.prog W = .ok (.tuple #[.agg #[.int .i64 0, .int .i64 0, .int .i64 0, .int .i64 0, .int .i64 0, .string ⟨#[]⟩], .bool false]) W := by kernel_rfl
theorem as_none_udp (W : World) : (Instr.typeAssert .nilIface 97 130 true).run Tryd.prog W = .ok (.tuple #[.agg #[.int .i64 0, .int .i64 0, .string ⟨#[]⟩], .bool false]) W := by kernel_rfl
theorem checkAt_tcp (v : Value) (w : World) :
    Calls Tryd.prog 64 #[.iface 128 v] w fun e w' => e = .returned (.int .i64 36) ∧ Below w.heap.size w w' := by
  have h1 := as_tcp_tcp v
  have h2 := as_tcp_udp v
  go_enter Tryd.func64, Tryd.ntmps64
  go_wp2
  go_ret
  exact ⟨rfl, Below.refl _ _⟩
theorem checkAt_udp (v : Value) (w : World) :
    Calls Tryd.prog 64 #[.iface 130 v] w fun e w' => e = .returned (.int .i64 26) ∧ Below w.heap.size w w' := by
  have h1 := as_udp_tcp v
  have h2 := as_udp_udp v
  go_enter Tryd.func64, Tryd.ntmps64
  go_wp2
  go_ret
  exact ⟨rfl, Below.refl _ _⟩
theorem checkAt_err (v : Value) (w : World) :
    Calls Tryd.prog 64 #[.iface 132 v] w fun e w' => e = .returned (.int .i64 22) ∧ Below w.heap.size w w' := by
  have h1 := as_err_tcp v
  have h2 := as_err_udp v
  go_enter Tryd.func64, Tryd.ntmps64
  go_wp2
  go_ret
  exact ⟨rfl, Below.refl _ _⟩
theorem checkAt_echo (v : Value) (w : World) :
    Calls Tryd.prog 64 #[.iface 134 v] w fun e w' => e = .returned (.int .i64 22) ∧ Below w.heap.size w w' := by
  have h1 := as_echo_tcp v
  have h2 := as_echo_udp v
  go_enter Tryd.func64, Tryd.ntmps64
  go_wp2
  go_ret
  exact ⟨rfl, Below.refl _ _⟩
theorem checkAt_none (w : World) :
    Calls Tryd.prog 64 #[.nilIface] w fun e w' => e = .returned (.int .i64 22) ∧ Below w.heap.size w w' := by
  have h1 := as_none_tcp
  have h2 := as_none_udp
  go_enter Tryd.func64, Tryd.ntmps64
  go_wp2
  go_ret
  exact ⟨rfl, Below.refl _ _⟩
end Go.Proofs.YtokjhfgbnpdfnaaDoor
end
