/- Proved here: impl.namesOf answers an iterator over the names that may be given; that iterator hands them over, in their order; the first that is not used is the one that the plain function finds. -/
import Derived.Test.YtilajoafppplcaaNamesIn
import Derived.Test.YtilajoafppplcaaAll31
import Derived.Test.YtilajoafppplcaaUsedI
namespace Go.Proofs.Ytilajoafppplcaa
open Go.RowKit Go.Shelf
set_option linter.unusedVariables false
set_option linter.unusedSimpArgs false
set_option maxRecDepth 100000

theorem namesOf_any (a : Option Addr) (cap : Nat) (l : List Rl) (t : Tp) (start : Int) (w : World) :
    Calls Try.prog 69 #[.slice a l.length cap, .agg #[.int .i64 t.proto, .int .i64 t.src, .int .i64 t.sport, .int .i64 t.dst, .int .i64 t.dport, .int .i64 t.kind], .int .i64 start] w fun e w' => ∃ Bl Bt Bq : Nat, e = .returned (.func (.func 110) #[] #[.pointer (some ⟨Bl, 0, none⟩), .pointer (some ⟨Bt, 0, none⟩), .pointer (some ⟨Bq, 0, none⟩)]) ∧
      w'.heap[Bl]? = some (.cells #[.slice a l.length cap] 50) ∧ w'.heap[Bt]? = some (.cells #[.int .i64 t.proto, .int .i64 t.src, .int .i64 t.sport, .int .i64 t.dst, .int .i64 t.dport, .int .i64 t.kind] 52) ∧ w'.heap[Bq]? = some (.cells #[.int .i64 start] 2) ∧ Below w.heap.size w w' := by
  have hGL0 : Hid ((((w.alloc (.cells #[.slice a l.length cap] 50)).alloc (.cells #[.int .i64 t.proto, .int .i64 t.src, .int .i64 t.sport, .int .i64 t.dst, .int .i64 t.dport, .int .i64 t.kind] 52)).alloc (.cells #[.int .i64 start] 2)).heap[w.heap.size]? = some (.cells #[.slice a l.length cap] 50)) := by
    show _ = _
    have := blk_alloc (blk_alloc (heap_newG w (.cells #[.slice a l.length cap] 50)) (.cells #[.int .i64 t.proto, .int .i64 t.src, .int .i64 t.sport, .int .i64 t.dst, .int .i64 t.dport, .int .i64 t.kind] 52)) (.cells #[.int .i64 start] 2)
    simpa using this
  have hGT0 : Hid ((((w.alloc (.cells #[.slice a l.length cap] 50)).alloc (.cells #[.int .i64 t.proto, .int .i64 t.src, .int .i64 t.sport, .int .i64 t.dst, .int .i64 t.dport, .int .i64 t.kind] 52)).alloc (.cells #[.int .i64 start] 2)).heap[w.heap.size + 1]? = some (.cells #[.int .i64 t.proto, .int .i64 t.src, .int .i64 t.sport, .int .i64 t.dst, .int .i64 t.dport, .int .i64 t.kind] 52)) := by
    show _ = _
    have := blk_alloc (heap_newG (w.alloc (.cells #[.slice a l.length cap] 50)) (.cells #[.int .i64 t.proto, .int .i64 t.src, .int .i64 t.sport, .int .i64 t.dst, .int .i64 t.dport, .int .i64 t.kind] 52)) (.cells #[.int .i64 start] 2)
    simpa using this
  have hGQ0 : Hid ((((w.alloc (.cells #[.slice a l.length cap] 50)).alloc (.cells #[.int .i64 t.proto, .int .i64 t.src, .int .i64 t.sport, .int .i64 t.dst, .int .i64 t.dport, .int .i64 t.kind] 52)).alloc (.cells #[.int .i64 start] 2)).heap[w.heap.size + 2]? = some (.cells #[.int .i64 start] 2)) := by
    show _ = _
    have := heap_newG ((w.alloc (.cells #[.slice a l.length cap] 50)).alloc (.cells #[.int .i64 t.proto, .int .i64 t.src, .int .i64 t.sport, .int .i64 t.dst, .int .i64 t.dport, .int .i64 t.kind] 52)) (.cells #[.int .i64 start] 2)
    simpa using this
  have hL0 := hidS ((((Below.refl w.heap.size w).alloc (Nat.le_refl _) (.cells #[.slice a l.length cap] 50)).alloc (by simp) (.cells #[.int .i64 t.proto, .int .i64 t.src, .int .i64 t.sport, .int .i64 t.dst, .int .i64 t.dport, .int .i64 t.kind] 52)).alloc (by simp; omega) (.cells #[.int .i64 start] 2))
  go_enter Try.func69, Try.ntmps69
  go_upto_region 1 with fail
  generalize (((w.alloc (.cells #[.slice a l.length cap] 50)).alloc (.cells #[.int .i64 t.proto, .int .i64 t.src, .int .i64 t.sport, .int .i64 t.dst, .int .i64 t.dport, .int .i64 t.kind] 52)).alloc (.cells #[.int .i64 start] 2)) = w0 at hGL0 hGT0 hGQ0 hL0 ⊢
  go_wp2_with fail
  go_ret
  exact ⟨_, _, _, rfl, hGL0.out, hGT0.out, hGQ0.out, hL0.out⟩
theorem names_hand (n Bl Bt Bq : Nat) (a : Option Addr) (cap : Nat) (l : List Rl) (t : Tp) (start : Int) (w : World) (hn : 6 ≤ n) (hl : allR l = true) (ht : rightT t = true) (hz : l.length ≤ 1048576) (hs0 : 0 ≤ start) (hs1 : start ≤ 1000000)
    (hBl : w.heap[Bl]? = some (.cells #[.slice a l.length cap] 50)) (hBt : w.heap[Bt]? = some (.cells #[.int .i64 t.proto, .int .i64 t.src, .int .i64 t.sport, .int .i64 t.dst, .int .i64 t.dport, .int .i64 t.kind] 52)) (hBq : w.heap[Bq]? = some (.cells #[.int .i64 start] 2)) (hR : RowZ a (flatRule l) w) :
    HandsOver n Try.prog 110 #[.pointer (some ⟨Bl, 0, none⟩), .pointer (some ⟨Bt, 0, none⟩), .pointer (some ⟨Bq, 0, none⟩)] (fun x : Tp => #[.agg #[.int .i64 x.proto, .int .i64 x.src, .int .i64 x.sport, .int .i64 x.dst, .int .i64 x.dport, .int .i64 x.kind]]) (namesL l t start) w := fun lr J Jx V hV hJ hJx h0 hY =>
  names1_in n lr Bl Bt Bq a cap l t start J Jx V hn hl ht hz hs0 hs1 (blk_later hBl hV) (blk_later hBt hV) (blk_later hBq hV) (hR.later hV) hJ hJx h0 hY

theorem names_right {l : List Rl} {t : Tp} {start : Int} (hl : allR l = true) (ht : rightT t = true) (hs : 0 ≤ start) : ∀ x ∈ namesL l t start, rightT x = true := by
  intro x hx
  unfold namesL at hx
  cases hh : hasR l 1 t
  · rw [hh] at hx; simp at hx; subst hx; exact ht
  · rw [hh, if_pos rfl] at hx
    unfold upF at hx
    obtain ⟨k, _, rfl⟩ := List.mem_map.1 hx
    exact name_right (found_right hl hh) ht hs k
theorem free_find {used : List Tp} {f : Nat → Tp} : ∀ (n k : Nat), freeF used f k n = ((List.range' k n).map f).find? (fun x => !usedB used x)
  | 0, k => by simp [freeF]
  | n + 1, k => by
    rw [List.range'_succ, List.map_cons, List.find?_cons]
    unfold freeF
    cases h : usedB used (f k)
    · simp
    · simp [free_find n (k + 1)]
theorem goes_find (l : List Rl) (t : Tp) (start : Int) (used : List Tp) : goesF l t start used = (namesL l (goalT l t) start).find? (fun x => !usedB used x) := by
  unfold goesF namesL
  cases hh : hasR l 1 (goalT l t)
  · simp only [Bool.false_eq_true, if_false, List.find?_cons, List.find?_nil]
    cases h : usedB used (goalT l t) <;> simp
  · simp only [if_true]
    rw [free_find]
    unfold upF
    rw [List.range_eq_range']
    rfl
theorem find_none {used : List Tp} {L : List Tp} (hr : ∀ x ∈ L, rightT x = true) (h : ∀ x ∈ L, usedA used x = true) : L.find? (fun x => !usedB used x) = none := by
  rw [List.find?_eq_none]
  intro x hx
  rw [← usedA_right (hr x hx), h x hx]
  simp
theorem find_some {used : List Tp} {L pre : List Tp} {x : Tp} (hr : ∀ x ∈ L, rightT x = true) (hp : pre ++ [x] <+: L) (h : ∀ y ∈ pre, usedA used y = true) (hx : usedA used x = false) : L.find? (fun x => !usedB used x) = some x := by
  obtain ⟨r, rfl⟩ := hp
  have hrx : rightT x = true := hr x (by simp)
  rw [List.append_assoc, List.find?_append, find_none (fun y hy => hr y (by simp [hy])) h]
  simp [← usedA_right hrx, hx]
end Go.Proofs.Ytilajoafppplcaa
