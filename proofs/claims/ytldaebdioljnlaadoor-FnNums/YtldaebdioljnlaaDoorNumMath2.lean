/- Proved here: plain facts: what GetNum and GetText answer of a number's and a text's bytes, whole, behind others, and without the last byte (functions on texts; no program). -/
import Derived.Test.YtldaebdioljnlaaDoorNumMath
import Derived.Test.YtldaebdioljnlaaDoorGetTextCore
import Derived.Lib.Strings
namespace Go.Proofs.YtldaebdioljnlaaDoor
open Go.RowKit

theorem numBytes_le (f v : Nat) (hf : 0 < f) (hv : v < 128 ^ f) : (numBytes f v).length ≤ f := by
  induction f generalizing v with
  | zero => omega
  | succ f ih =>
    unfold numBytes
    split
    · simp
    · rename_i h
      cases f with
      | zero => simp at hv; omega
      | succ f =>
        have := ih (v / 128) (by omega) (by rw [Nat.pow_succ] at hv; exact (Nat.div_lt_iff_lt_mul (by omega)).2 hv)
        simp; omega
theorem num_len {n : Int} (h1 : -9223372036854775808 ≤ n) (h2 : n ≤ 9223372036854775807) : (numBytes 10 (zig n)).length ≤ 10 :=
  numBytes_le 10 _ (by omega) (Nat.lt_of_lt_of_le (zig_lt h1 h2) (by decide))
theorem byte_at (s : ByteArray) (k : Nat) (h : k < s.size) : s[k] = s.data.toList[k]'(by simpa using h) := rfl

/-- a number's bytes behind others and ahead of others are read as that number -/
theorem rdAll_of {s : ByteArray} {n : Int} {A C : List UInt8} (h1 : -9223372036854775808 ≤ n) (h2 : n ≤ 9223372036854775807) (hs : s.data.toList = A ++ (numBytes 10 (zig n) ++ C)) (hsz : s.size ≤ 8000) :
    rdAll s (A.length : Int) = (n, ((A.length + (numBytes 10 (zig n)).length : Nat) : Int), 0) := by
  have hlen : s.size = A.length + ((numBytes 10 (zig n)).length + C.length) := by have := congrArg List.length hs; simpa using this
  unfold rdAll
  rw [if_neg (by omega), if_neg (by omega), Int.toNat_natCast]
  rw [rd_num s A.length 10 0 0 (zig n) (by omega) (by have := zig_lt h1 h2; omega) (Or.inl rfl) (fun j hj => by
    refine ⟨by omega, ?_⟩
    rw [byte_at]
    simp only [hs]
    rw [List.getElem_append_right (by omega), List.getElem_append_left (by omega)]
    congr 1
    omega)]
  simp only [Nat.pow_zero, Nat.mul_one, Nat.zero_add, Nat.add_zero, unzig_zig]
/-- .. without the last byte: too short -/
theorem rdAll_cut {s : ByteArray} {n : Int} {A : List UInt8} (h1 : -9223372036854775808 ≤ n) (h2 : n ≤ 9223372036854775807) (hs : s.data.toList = A ++ (numBytes 10 (zig n)).dropLast) (hsz : s.size ≤ 8000) :
    rdAll s (A.length : Int) = (0, 0, 4) := by
  have hp := numBytes_pos 10 (zig n)
  have hlen : s.size = A.length + ((numBytes 10 (zig n)).length - 1) := by have := congrArg List.length hs; simpa using this
  unfold rdAll
  rw [if_neg (by omega), if_neg (by omega), Int.toNat_natCast]
  exact rd_cut s A.length 10 0 0 (zig n) (by omega) (by have := zig_lt h1 h2; omega) (Or.inl rfl) (by omega) (fun j hj => by
    refine ⟨by omega, ?_⟩
    rw [byte_at]
    simp only [hs]
    rw [List.getElem_append_right (by omega), List.getElem_dropLast]
    congr 1
    omega)

theorem appL (a b : ByteArray) : (a ++ b).data.toList = a.data.toList ++ b.data.toList := by simp
theorem cutL (s : ByteArray) : (s.extract 0 (s.size - 1)).data.toList = s.data.toList.dropLast := by
  rw [Lib.extract_data, List.drop_zero, Nat.sub_zero, List.dropLast_eq_take]
  simp
/-- PutNum's bytes between others -/
theorem num_mid {n : Int} (h1 : -9223372036854775808 ≤ n) (h2 : n ≤ 9223372036854775807) {t : ByteArray} (ht : t = ⟨(numBytes 10 (zig n)).toArray⟩) :
    rdAll ((⟨#[120, 121]⟩ ++ t) ++ ⟨#[122]⟩) 2 = (n, (t.size : Int) + 2, 0) := by
  have hl := num_len h1 h2
  have htl : t.data.toList = numBytes 10 (zig n) := by rw [ht]
  have hts : t.size = (numBytes 10 (zig n)).length := by rw [ht]; rfl
  have := rdAll_of (s := (⟨#[120, 121]⟩ ++ t) ++ ⟨#[122]⟩) (n := n) (A := [120, 121]) (C := [122]) h1 h2 (by rw [appL, appL, htl]; simp) (by
    simp only [ByteArray.size_append]
    show 2 + t.size + 1 ≤ 8000
    omega)
  have e : (([120, 121] : List UInt8).length : Int) = 2 := rfl
  rw [e] at this
  rw [this, hts]
  simp only [Prod.mk.injEq, true_and, and_true]
  simp
  omega
theorem num_short {n : Int} (h1 : -9223372036854775808 ≤ n) (h2 : n ≤ 9223372036854775807) {t : ByteArray} (ht : t = ⟨(numBytes 10 (zig n)).toArray⟩) :
    rdAll (t.extract 0 (t.size - 1)) 0 = (0, 0, 4) := by
  have hl := num_len h1 h2
  have hts : t.size = (numBytes 10 (zig n)).length := by rw [ht]; rfl
  exact rdAll_cut (A := []) h1 h2 (by rw [cutL, ht]; simp) (by simp only [ByteArray.size_extract]; omega)

/-- a text's bytes behind a byte -/
theorem text_mid {u p : ByteArray} (hu : u.size ≤ 19) (hp : p = (⟨(numBytes 10 (zig u.size)).toArray⟩ ++ u : ByteArray)) :
    ∃ a : Int, rdAll (⟨#[120]⟩ ++ p) 1 = ((u.size : Int), a, 0) ∧ gtT (⟨#[120]⟩ ++ p) u.size a 0 = u ∧ gtA (⟨#[120]⟩ ++ p) u.size a 0 = (p.size : Int) + 1 ∧ gtC (⟨#[120]⟩ ++ p) u.size a 0 = 0 := by
  have hl := num_len (n := (u.size : Int)) (by omega) (by omega)
  have hul : u.data.toList.length = u.size := by simp
  have hpl : p.data.toList = numBytes 10 (zig u.size) ++ u.data.toList := by rw [hp, appL]
  have hps : p.size = (numBytes 10 (zig u.size)).length + u.size := by have := congrArg List.length hpl; simpa [hul] using this
  have hqs : (⟨#[120]⟩ ++ p : ByteArray).size = 1 + p.size := by rw [ByteArray.size_append]; rfl
  have h := rdAll_of (s := ⟨#[120]⟩ ++ p) (n := (u.size : Int)) (A := [120]) (C := u.data.toList) (by omega) (by omega) (by rw [appL, hpl]) (by omega)
  have e : (([120] : List UInt8).length : Int) = 1 := rfl
  rw [e] at h
  refine ⟨_, h, ?_, ?_, ?_⟩
  · unfold gtT
    rw [if_neg (by rw [hqs]; simp; omega)]
    apply ByteArray.ext
    apply Array.toList_inj.1
    rw [Lib.extract_data, appL, hpl]
    have e1 : ((([120] : List UInt8).length + (numBytes 10 (zig (u.size : Int))).length : Nat) : Int).toNat = 1 + (numBytes 10 (zig (u.size : Int))).length := by simp; omega
    have e2 : (((([120] : List UInt8).length + (numBytes 10 (zig (u.size : Int))).length : Nat) : Int) + (u.size : Int)).toNat = 1 + (numBytes 10 (zig (u.size : Int))).length + u.size := by simp; omega
    rw [e1, e2]
    have e3 : (⟨#[120]⟩ : ByteArray).data.toList ++ (numBytes 10 (zig (u.size : Int)) ++ u.data.toList) = ([120] ++ numBytes 10 (zig (u.size : Int))) ++ u.data.toList := by simp
    rw [e3, List.drop_append_of_le_length (by simp; omega), List.drop_of_length_le (by simp; omega), List.nil_append]
    exact List.take_of_length_le (by omega)
  · unfold gtA
    rw [if_neg (by rw [hqs]; simp; omega), hps]
    simp
    omega
  · unfold gtC
    rw [if_neg (by omega), if_neg (by omega), if_neg (by rw [hqs]; simp; omega)]
/-- .. and without the last byte -/
theorem text_short {u p : ByteArray} (hu : u.size ≤ 19) (hp : p = (⟨(numBytes 10 (zig u.size)).toArray⟩ ++ u : ByteArray)) :
    gtC (p.extract 0 (p.size - 1)) (rdAll (p.extract 0 (p.size - 1)) 0).1 (rdAll (p.extract 0 (p.size - 1)) 0).2.1 (rdAll (p.extract 0 (p.size - 1)) 0).2.2 = 4 := by
  have hl := num_len (n := (u.size : Int)) (by omega) (by omega)
  have hul : u.data.toList.length = u.size := by simp
  have hpl : p.data.toList = numBytes 10 (zig u.size) ++ u.data.toList := by rw [hp, appL]
  have hps : p.size = (numBytes 10 (zig u.size)).length + u.size := by have := congrArg List.length hpl; simpa [hul] using this
  have hpos := numBytes_pos 10 (zig (u.size : Int))
  have hqs : (p.extract 0 (p.size - 1)).size = p.size - 1 := by simp only [ByteArray.size_extract]; omega
  by_cases h0 : u.size = 0
  · have hun : u.data.toList = [] := List.length_eq_zero_iff.1 (by omega)
    have h := rdAll_cut (s := p.extract 0 (p.size - 1)) (n := (u.size : Int)) (A := []) (by omega) (by omega) (by rw [cutL, hpl, hun]; simp) (by omega)
    have e : (([] : List UInt8).length : Int) = 0 := rfl
    rw [e] at h
    rw [h]
    unfold gtC
    rw [if_pos (by simp)]
  · have hne : u.data.toList ≠ [] := fun e => h0 (by rw [← hul, e]; rfl)
    have h := rdAll_of (s := p.extract 0 (p.size - 1)) (n := (u.size : Int)) (A := []) (C := u.data.toList.dropLast) (by omega) (by omega) (by rw [cutL, hpl, List.dropLast_append_of_ne_nil hne]; simp) (by omega)
    have e : (([] : List UInt8).length : Int) = 0 := rfl
    rw [e] at h
    rw [h]
    unfold gtC
    rw [if_neg (by simp), if_neg (by simp; omega), if_pos (by rw [hqs]; simp; omega)]
end Go.Proofs.YtldaebdioljnlaaDoor
