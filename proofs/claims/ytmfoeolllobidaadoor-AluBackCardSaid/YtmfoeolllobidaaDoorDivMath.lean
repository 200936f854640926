/- Plain numbers: a quotient's digit, guessed and mended. -/
import Derived.Test.YtmfoeolllobidaaDoorMul
namespace Go.Proofs.YtmfoeolllobidaaDoor
open Go.RowKit
/-- The digit: u and one digit more by y. -/
def qD (u d y : Nat) : Nat := (u * 4294967296 + d) / y
theorem qD_lt (u d y : Nat) (hu : u < y) (hd : d < 4294967296) : qD u d y < 4294967296 := by
  unfold qD
  rw [Nat.div_lt_iff_lt_mul (by omega)]
  have : (u + 1) * 4294967296 ≤ y * 4294967296 := Nat.mul_le_mul_right _ hu
  rw [Nat.mul_comm 4294967296 y]; omega
/-- What is so of a guess: it is not too low, and what is left goes with it. -/
structure Guess (u d y1 y0 q r : Nat) : Prop where
  left : q * y1 + r = u
  high : qD u d (y1 * 4294967296 + y0) ≤ q
theorem guess_first (u d y1 y0 : Nat) (h1 : 0 < y1) (hd : d < 4294967296) : Guess u d y1 y0 (u / y1) (u % y1) := by
  refine ⟨Nat.div_add_mod' u y1, ?_⟩
  have h := Nat.div_add_mod' u y1
  have hr := Nat.mod_lt u h1
  unfold qD
  have hy : 0 < y1 * 4294967296 + y0 := by omega
  apply Nat.le_of_lt_succ
  rw [Nat.div_lt_iff_lt_mul hy, Nat.mul_add]
  have e : u / y1 * y1 + y1 = (u / y1 + 1) * y1 := by rw [Nat.add_mul, Nat.one_mul]
  have e2 : (u / y1).succ * (y1 * 4294967296) = (u / y1 + 1) * y1 * 4294967296 := (Nat.mul_assoc _ _ _).symm
  rw [e2, ← e]
  have : u + 1 ≤ u / y1 * y1 + y1 := by omega
  have h3 := Nat.mul_le_mul_right 4294967296 this
  omega
theorem guess_over {u d y1 y0 q r : Nat} (hy : 0 < y1 * 4294967296 + y0) (hg : Guess u d y1 y0 q r) (h : 4294967296 * r + d < q * y0) : qD u d (y1 * 4294967296 + y0) < q := by
  have h1 := hg.left
  unfold qD
  rw [Nat.div_lt_iff_lt_mul hy, Nat.mul_add]
  have e2 : q * (y1 * 4294967296) = q * y1 * 4294967296 := (Nat.mul_assoc _ _ _).symm
  rw [e2]; omega
theorem guess_next {u d y1 y0 q r : Nat} (hg : Guess u d y1 y0 q r) (h : qD u d (y1 * 4294967296 + y0) < q) : Guess u d y1 y0 (q - 1) (r + y1) := by
  refine ⟨?_, by omega⟩
  have h1 := hg.left
  obtain ⟨k, rfl⟩ : ∃ k, q = k + 1 := ⟨q - 1, by omega⟩
  rw [Nat.add_mul, Nat.one_mul] at h1
  simp only [Nat.add_sub_cancel]; omega
theorem guess_done {u d y1 y0 q r : Nat} (hy : 0 < y1 * 4294967296 + y0) (hg : Guess u d y1 y0 q r) (h : q * y0 ≤ 4294967296 * r + d) : q = qD u d (y1 * 4294967296 + y0) := by
  have h1 := hg.left
  apply Nat.le_antisymm _ hg.high
  unfold qD
  rw [Nat.le_div_iff_mul_le hy, Nat.mul_add]
  have e2 : q * (y1 * 4294967296) = q * y1 * 4294967296 := (Nat.mul_assoc _ _ _).symm
  rw [e2]; omega
theorem guess_far {u d y1 y0 q r : Nat} (hy : 0 < y1 * 4294967296 + y0) (hy0 : y0 < 4294967296) (hg : Guess u d y1 y0 q r) (hq : q ≤ 4294967296) (hr : 4294967296 ≤ r) : q = qD u d (y1 * 4294967296 + y0) := by
  apply guess_done hy hg
  have : q * y0 ≤ 4294967296 * 4294967296 := Nat.mul_le_mul hq (by omega)
  omega
/-- What is left behind a digit. -/
theorem rest_digit (u d y : Nat) : (u * 4294967296 + d) - qD u d y * y = (u * 4294967296 + d) % y := by
  have := Nat.div_add_mod' (u * 4294967296 + d) y
  unfold qD; omega
/-- Two digits are the quotient. -/
theorem two_digits (u d1 d0 y : Nat) (hy : 0 < y) :
    qD u d1 y * 4294967296 + qD ((u * 4294967296 + d1) % y) d0 y = (u * 18446744073709551616 + d1 * 4294967296 + d0) / y ∧
    (((u * 4294967296 + d1) % y) * 4294967296 + d0) % y = (u * 18446744073709551616 + d1 * 4294967296 + d0) % y := by
  have h := Nat.div_add_mod' (u * 4294967296 + d1) y
  have e : u * 18446744073709551616 + d1 * 4294967296 + d0 = y * (qD u d1 y * 4294967296) + (((u * 4294967296 + d1) % y) * 4294967296 + d0) := by
    have e1 : y * (qD u d1 y * 4294967296) = (u * 4294967296 + d1) / y * y * 4294967296 := by
      rw [Nat.mul_comm y, Nat.mul_right_comm]; rfl
    rw [e1]; omega
  rw [e, Nat.mul_add_div hy, Nat.mul_add_mod]
  exact ⟨rfl, rfl⟩
/-- Shifted alike, a quotient is the same, and the rest is shifted. -/
theorem shift_div (n y s : Nat) : n * 2 ^ s / (y * 2 ^ s) = n / y := Nat.mul_div_mul_right _ _ (Nat.two_pow_pos s)
theorem shift_mod (n y s : Nat) : n * 2 ^ s % (y * 2 ^ s) / 2 ^ s = n % y := by
  rw [Nat.mul_mod_mul_right, Nat.mul_div_cancel _ (Nat.two_pow_pos s)]
end Go.Proofs.YtmfoeolllobidaaDoor
