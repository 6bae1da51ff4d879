/- Proved here: plain facts: a number's bytes are read back as that number, and without the last one as too short (functions on lists of bytes; no program). -/
import Derived.Test.YtldaebdioljnlaaDoorRd
import Derived.Test.YtldaebdioljnlaaDoorPutText
namespace Go.Proofs.YtldaebdioljnlaaDoor
open Go.RowKit

theorem unzig_zig (n : Int) : unzig (zig n) = n := by
  unfold zig
  split
  · unfold unzig; rw [if_pos (by omega)]; omega
  · unfold unzig; rw [if_neg (by omega)]; omega

theorem pow10 {i v : Nat} (h : v * 128 ^ i < 18446744073709551616) (hi : 9 ≤ i) : v < 2 := by
  have h1 : 9223372036854775808 ≤ 128 ^ i := Nat.le_trans (by decide) (Nat.pow_le_pow_right (by omega) hi)
  have h2 : v * 9223372036854775808 ≤ v * 128 ^ i := Nat.mul_le_mul_left _ h1
  omega
theorem step_pow {i v : Nat} : v % 128 * 128 ^ i + v / 128 * 128 ^ (i + 1) = v * 128 ^ i := by
  rw [Nat.pow_succ, show v / 128 * (128 ^ i * 128) = (128 * (v / 128)) * 128 ^ i from by rw [Nat.mul_comm (128 ^ i) 128, ← Nat.mul_assoc, Nat.mul_comm (v / 128) 128], ← Nat.add_mul, Nat.mod_add_div]
theorem numBytes_pos (f v : Nat) : 0 < (numBytes f v).length := by
  cases f with
  | zero => simp [numBytes]
  | succ f => unfold numBytes; split <;> simp
theorem ofNat_toNat {x : Nat} (h : x < 256) : (UInt8.ofNat x).toNat = x := by simp; omega

/-- the bytes of v at place p + i, read on from byte i -/
theorem rd_num (s : ByteArray) (p f i u v : Nat) (hf : i + f = 10) (hv : v * 128 ^ i < 18446744073709551616) (h0 : i = 0 ∨ 0 < v)
    (hs : ∀ j, (hj : j < (numBytes f v).length) → ∃ h : p + i + j < s.size, s[p + i + j] = (numBytes f v)[j]) :
    rd s p f i u = (unzig (u + v * 128 ^ i), ((p + i + (numBytes f v).length : Nat) : Int), 0) := by
  induction f generalizing i u v with
  | zero =>
    have hi : i = 10 := by omega
    subst hi
    have h3 : v * 1180591620717411303424 < 18446744073709551616 := hv
    omega
  | succ f ih =>
    obtain ⟨hin, hc⟩ := hs 0 (numBytes_pos _ _)
    have hin' : p + i < s.size := hin
    by_cases hlt : v < 128
    · have e : numBytes (f + 1) v = [UInt8.ofNat v] := by unfold numBytes; rw [if_pos hlt]
      have hcv : s[p + i].toNat = v := by
        have h1 : s[p + i] = UInt8.ofNat v := by
          have : s[p + i] = (numBytes (f + 1) v)[0]'(numBytes_pos _ _) := hc
          rw [this]; simp [e]
        rw [h1, ofNat_toNat (by omega)]
      have h9 : ¬ (i = 9 ∧ 1 < s[p + i].toNat) := by
        rintro ⟨h1, h2⟩
        have := pow10 hv (by omega)
        omega
      rw [rd_last hin' h9 (by omega) (by omega), hcv, e]
      rfl
    · have e : numBytes (f + 1) v = UInt8.ofNat (v % 128 + 128) :: numBytes f (v / 128) := by
        conv => lhs; unfold numBytes
        rw [if_neg hlt]
      have hcv : s[p + i].toNat = v % 128 + 128 := by
        have h1 : s[p + i] = UInt8.ofNat (v % 128 + 128) := by
          have : s[p + i] = (numBytes (f + 1) v)[0]'(numBytes_pos _ _) := hc
          rw [this]; simp [e]
        rw [h1, ofNat_toNat (by omega)]
      have h9 : ¬ (i = 9 ∧ 1 < s[p + i].toNat) := by
        rintro ⟨h1, h2⟩
        have := pow10 hv (by omega)
        omega
      have hsp := step_pow (i := i) (v := v)
      have hih := ih (i + 1) (u + s[p + i].toNat % 128 * 128 ^ i) (v / 128) (by omega) (by omega) (Or.inr (by omega)) (fun j hj => by
        obtain ⟨h1, h2⟩ := hs (j + 1) (by rw [e]; simpa using hj)
        refine ⟨by omega, ?_⟩
        have h3 : s[p + (i + 1) + j]'(by omega) = s[p + i + (j + 1)] := by congr 1; omega
        rw [h3, h2]
        simp [e])
      rw [rd_more hin' h9 (by omega), hih, hcv, e, show (v % 128 + 128) % 128 = v % 128 from by omega]
      have e3 : u + v % 128 * 128 ^ i + v / 128 * 128 ^ (i + 1) = u + v * 128 ^ i := by omega
      rw [e3]
      simp only [List.length_cons]
      have e4 : p + (i + 1) + (numBytes f (v / 128)).length = p + i + ((numBytes f (v / 128)).length + 1) := by omega
      rw [e4]
/-- .. without the last one -/
theorem rd_cut (s : ByteArray) (p f i u v : Nat) (hf : i + f = 10) (hv : v * 128 ^ i < 18446744073709551616) (h0 : i = 0 ∨ 0 < v) (hsz : s.size + 1 = p + i + (numBytes f v).length)
    (hs : ∀ j, (hj : j + 1 < (numBytes f v).length) → ∃ h : p + i + j < s.size, s[p + i + j] = (numBytes f v)[j]) :
    rd s p f i u = (0, 0, 4) := by
  induction f generalizing i u v with
  | zero =>
    have hi : i = 10 := by omega
    subst hi
    have h3 : v * 1180591620717411303424 < 18446744073709551616 := hv
    omega
  | succ f ih =>
    by_cases hlt : v < 128
    · have e : numBytes (f + 1) v = [UInt8.ofNat v] := by unfold numBytes; rw [if_pos hlt]
      rw [e] at hsz
      exact rd_short (by simp at hsz; omega)
    · have e : numBytes (f + 1) v = UInt8.ofNat (v % 128 + 128) :: numBytes f (v / 128) := by
        conv => lhs; unfold numBytes
        rw [if_neg hlt]
      have hp := numBytes_pos f (v / 128)
      obtain ⟨hin, hc⟩ := hs 0 (by rw [e]; simp; omega)
      have hin' : p + i < s.size := hin
      have hcv : s[p + i].toNat = v % 128 + 128 := by
        have h1 : s[p + i] = UInt8.ofNat (v % 128 + 128) := by
          have : s[p + i] = (numBytes (f + 1) v)[0]'(numBytes_pos _ _) := hc
          rw [this]; simp [e]
        rw [h1, ofNat_toNat (by omega)]
      have h9 : ¬ (i = 9 ∧ 1 < s[p + i].toNat) := by
        rintro ⟨h1, h2⟩
        have := pow10 hv (by omega)
        omega
      have hsp := step_pow (i := i) (v := v)
      rw [e] at hsz
      simp only [List.length_cons] at hsz
      rw [rd_more hin' h9 (by omega)]
      exact ih (i + 1) _ (v / 128) (by omega) (by omega) (Or.inr (by omega)) (by omega) (fun j hj => by
        obtain ⟨h1, h2⟩ := hs (j + 1) (by rw [e]; simp; omega)
        refine ⟨by omega, ?_⟩
        have h3 : s[p + (i + 1) + j]'(by omega) = s[p + i + (j + 1)] := by congr 1; omega
        rw [h3, h2]
        simp [e])
end Go.Proofs.YtldaebdioljnlaaDoor
