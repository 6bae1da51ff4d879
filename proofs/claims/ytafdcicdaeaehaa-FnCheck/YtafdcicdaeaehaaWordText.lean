/- Proved here: what WordText answers, of impl and of spec; all old memory stays (no conditions). -/
import Derived.Test.YtafdcicdaeaehaaWords
namespace Go.Proofs.Ytafdcicdaeaehaa
open Go.ChangeShapes Go.WideShapes Go.ChangeAt Go.RowKit
open Go.ChangeMaps (open_string shut_string)
set_option linter.unusedVariables false

theorem cell_at1 (w : World) (o : Obj) (cs : Array Value) (t : TypeId) {j : Nat} : ((w.alloc o).alloc (.cells cs t)).cell? ⟨w.heap.size + 1, j, none⟩ = cs[j]? := by
  have h : ((w.alloc o).alloc (.cells cs t)).heap[w.heap.size + 1]? = some (.cells cs t) := by
    show ((w.heap.push o).push (.cells cs t))[w.heap.size + 1]? = _
    rw [Array.getElem?_push, if_pos (by simp)]
  simp only [World.cell?, h]
  simp
theorem conv_two (W : World) (B m : Nat) (hm : m ≤ 65535) (h0 : W.cell? ⟨B, 0, none⟩ = some (.int .u8 ((m : Int) / 256))) (h1 : W.cell? ⟨B, 1, none⟩ = some (.int .u8 ((m : Int) % 256))) :
    (convert 22 9 (.slice (some ⟨B, 0, none⟩) 2 2)).run Try.prog W = .ok (.string ⟨#[UInt8.ofNat ((m : Int).toNat / 256), UInt8.ofNat ((m : Int).toNat % 256)]⟩) W :=
  run_convert_bytes_back (P := Try.prog) W 22 9 5 ⟨B, 0, none⟩ 2 [UInt8.ofNat ((m : Int).toNat / 256), UInt8.ofNat ((m : Int).toNat % 256)] Try.underlying22 Try.underlying5 Try.underlying9 (fun j hj => by
    have e0 : (UInt8.ofNat ((m : Int).toNat / 256)).toNat = m / 256 := by simp; omega
    have e1 : (UInt8.ofNat ((m : Int).toNat % 256)).toNat = m % 256 := by simp
    rw [Addr.add_lit, Nat.zero_add]
    rcases (by simp at hj; omega : j = 0 ∨ j = 1) with rfl | rfl
    · rw [h0, show [UInt8.ofNat ((m : Int).toNat / 256), UInt8.ofNat ((m : Int).toNat % 256)][0] = UInt8.ofNat ((m : Int).toNat / 256) from rfl, e0]
      congr 2
    · rw [h1, show [UInt8.ofNat ((m : Int).toNat / 256), UInt8.ofNat ((m : Int).toNat % 256)][1] = UInt8.ofNat ((m : Int).toNat % 256) from rfl, e1]
      congr 2)
theorem implWordText_any (n : Int) (w : World) :
    Calls Try.prog 29 #[.int .i64 n] w fun e w' => e = .returned (.string (wordT n)) ∧ Below w.heap.size w w' := by
  have hB := fun o => (Below.refl w.heap.size w).alloc (Nat.le_refl _) o
  have HB := hidS hB
  clear hB
  by_cases h : allW [n] = true
  · have h1 : wordB n = true := by simpa [allW] using h
    have e : Hid (wordT n = ⟨#[UInt8.ofNat (n.toNat / 256), UInt8.ofNat (n.toNat % 256)]⟩) := if_pos h1
    obtain ⟨m, rfl⟩ : ∃ m : Nat, n = m := ⟨n.toNat, by have := wordB_iff.1 h1; omega⟩
    have hm := (wordB_iff.1 h1).2
    clear h1
    go_enter Try.func29, Try.ntmps29
    go_wp2_with fail
    refine (areWords_any w.heap.size [(m : Int)] _ (one_cell _ _ _) (by simp)).mono ?_
    rintro e w1 ⟨rfl, rfl⟩
    rw [h]
    have hcv := conv_two ((w.alloc (.cells #[.int .i64 (m : Int)] 2)).alloc (.cells #[.int .u8 ((m : Int) / 256), .int .u8 ((m : Int) % 256)] 5)) (w.heap.size + 1) m (by omega) (cell_at1 _ _ _ _) (cell_at1 _ _ _ _)
    have hbb := hidS ((HB.out (.cells #[.int .i64 (m : Int)] 2)).alloc (by simp) (.cells #[.int .u8 ((m : Int) / 256), .int .u8 ((m : Int) % 256)] 5))
    go_wp2
    go_ret
    exact ⟨by rw [e.out]; rfl, hbb.out⟩
  · have e : Hid (wordT n = ⟨#[]⟩) := if_neg (fun g => h (by simpa [allW] using g))
    have h' : allW [n] = false := by simpa using h
    clear h
    go_enter Try.func29, Try.ntmps29
    go_wp2_with fail
    refine (areWords_any w.heap.size [n] _ (one_cell _ _ _) (by simp)).mono ?_
    rintro e w1 ⟨rfl, rfl⟩
    rw [h']
    go_wp2
    go_ret
    exact ⟨by rw [e.out]; rfl, HB.out _⟩
theorem l02Two_any (m : Nat) (w : World) (hm : m ≤ 65535) :
    Calls Try.prog 43 #[.int .i64 (m : Int)] w fun e w' => e = .returned (.string ⟨#[UInt8.ofNat ((m : Int).toNat / 256), UInt8.ofNat ((m : Int).toNat % 256)]⟩) ∧ Below w.heap.size w w' := by
  have hm' : (m : Int) ≤ 65535 := by omega
  have hcv := conv_two (w.alloc (.cells #[.int .u8 ((m : Int) / 256), .int .u8 ((m : Int) % 256)] 5)) w.heap.size m hm (by simp) (by simp)
  have hbb := hidS ((Below.refl w.heap.size w).alloc (Nat.le_refl _) (.cells #[.int .u8 ((m : Int) / 256), .int .u8 ((m : Int) % 256)] 5))
  go_enter Try.func43, Try.ntmps43
  go_wp2
  go_ret
  exact ⟨rfl, hbb.out⟩
theorem specWordText_any (n : Int) (w : World) :
    Calls Try.prog 30 #[.int .i64 n] w fun e w' => e = .returned (.string (wordT n)) ∧ Below w.heap.size w w' := by
  cases h : wordB n
  · have e : Hid (wordT n = ⟨#[]⟩) := if_neg (fun g => by rw [h] at g; cases g)
    go_enter Try.func30, Try.ntmps30
    go_wp2_with (go_at_call 49; refine (l02Word_any _ _).mono ?_; rintro e w1 ⟨rfl, rfl⟩)
    go_ret
    exact ⟨by rw [e.out]; rfl, Below.refl _ _⟩
  · have e : Hid (wordT n = ⟨#[UInt8.ofNat (n.toNat / 256), UInt8.ofNat (n.toNat % 256)]⟩) := if_pos h
    obtain ⟨m, rfl⟩ : ∃ m : Nat, n = m := ⟨n.toNat, by have := wordB_iff.1 h; omega⟩
    have hm := (wordB_iff.1 h).2
    go_enter Try.func30, Try.ntmps30
    go_wp2_with fail
    refine (l02Word_any _ _).mono ?_
    rintro e w1 ⟨rfl, rfl⟩
    rw [h]
    go_wp2_with fail
    refine (l02Two_any m _ (by omega)).mono ?_
    rintro e w1 ⟨rfl, hb⟩
    go_wp2
    go_ret
    exact ⟨by rw [e.out]; rfl, hb⟩
end Go.Proofs.Ytafdcicdaeaehaa
