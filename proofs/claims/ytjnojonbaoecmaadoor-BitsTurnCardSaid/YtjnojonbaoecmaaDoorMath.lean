/- Plain numbers: bytes, sums, turns, signs. -/
import Derived.Test.YtjnojonbaoecmaaDoorBytes
namespace Go.Proofs.YtjnojonbaoecmaaDoor
open Go.RowKit
theorem numN_byN (a k : Nat) : numN (byN a) k = a % 2 ^ (8 * k) := by
  induction k with
  | zero => simp [numN, Nat.mod_one]
  | succ k ih =>
    have e : 2 ^ (8 * (k + 1)) = 2 ^ (8 * k) * 256 := by rw [Nat.mul_add, Nat.pow_add]
    have e2 : numN (byN a) (k + 1) = numN (byN a) k + byN a k * 2 ^ (8 * k) := rfl
    rw [e2, ih, e, Nat.mod_mul, Nat.mul_comm (byN a k)]; rfl
theorem hN_cases (wd : Int) : hN wd = 1 ∨ hN wd = 2 ∨ hN wd = 3 ∨ hN wd = 4 ∨ hN wd = 5 ∨ hN wd = 6 ∨ hN wd = 7 ∨ hN wd = 8 := by
  have := hN_bd wd; omega
theorem b1_le (c : Bool) : b1 c ≤ 1 := by cases c <;> simp [b1]
theorem cN_cN (a : Nat) (wd : Int) : cN (cN a wd) wd = cN a wd := Nat.mod_mod _ _
theorem addR_val (a b : Nat) (c : Bool) (wd : Int) : addR a b c wd = (cN a wd + cN b wd + b1 c) % 2 ^ (8 * hN wd) := by
  have hc := b1_le c
  unfold addR addS cN
  rcases hN_cases wd with h | h | h | h | h | h | h | h <;> rw [h] <;> simp only [Nat.reduceMul, Nat.reducePow] <;> omega
theorem addO_val (a b : Nat) (c : Bool) (wd : Int) : addO a b c wd = decide (2 ^ (8 * hN wd) ≤ cN a wd + cN b wd + b1 c) := by
  have hc := b1_le c
  unfold addO oB addC addS cN
  rw [Bool.eq_iff_iff]
  rcases hN_cases wd with h | h | h | h | h | h | h | h <;> rw [h] <;> simp only [Nat.reduceMul, Nat.reducePow, Bool.or_eq_true, beq_iff_eq, bne_iff_ne, decide_eq_true_eq, ne_eq] <;> omega
theorem subR_val (a b : Nat) (c : Bool) (wd : Int) : subR a b c wd = (cN a wd + 2 ^ (8 * hN wd) * 2 - cN b wd - b1 c) % 2 ^ (8 * hN wd) := by
  have hc := b1_le c
  unfold subR subS cN
  rcases hN_cases wd with h | h | h | h | h | h | h | h <;> rw [h] <;> simp only [Nat.reduceMul, Nat.reducePow] <;> omega
theorem subO_val (a b : Nat) (c : Bool) (wd : Int) : subO a b c wd = decide (cN a wd < cN b wd + b1 c) := by
  have hc := b1_le c
  unfold subO oB subC subS cN
  rw [Bool.eq_iff_iff]
  by_cases hl : a % 2 ^ (8 * hN wd) < b % 2 ^ (8 * hN wd) + b1 c
  · rw [if_pos hl]; simp [hl]
  · rw [if_neg hl]
    revert hl
    rcases hN_cases wd with h | h | h | h | h | h | h | h <;> rw [h] <;> simp only [Nat.reduceMul, Nat.reducePow, Bool.or_eq_true, beq_iff_eq, bne_iff_ne, decide_eq_true_eq, ne_eq] <;> omega
theorem cN_lt (a : Nat) (wd : Int) : cN a wd < 2 ^ (8 * hN wd) := Nat.mod_lt _ (Nat.two_pow_pos _)
theorem back_sum (a b : Nat) (c : Bool) (wd : Int) : subR (addR a b c wd) b c wd = cN a wd := by
  have hc := b1_le c
  have h1 := cN_lt a wd
  have h2 := cN_lt b wd
  rw [subR_val, addR_val]
  unfold cN at *
  rw [Nat.mod_mod]
  generalize a % 2 ^ (8 * hN wd) = x at *
  generalize b % 2 ^ (8 * hN wd) = y at *
  generalize b1 c = z at *
  rcases hN_cases wd with h | h | h | h | h | h | h | h <;> rw [h] at h1 h2 ⊢ <;> simp only [Nat.reduceMul, Nat.reducePow] at * <;> omega
theorem back_out (a b : Nat) (c : Bool) (wd : Int) : subO (addR a b c wd) b c wd = addO a b c wd := by
  have hc := b1_le c
  have h1 := cN_lt a wd
  have h2 := cN_lt b wd
  rw [subO_val, addO_val, addR_val]
  unfold cN at *
  rw [Nat.mod_mod]
  generalize a % 2 ^ (8 * hN wd) = x at *
  generalize b % 2 ^ (8 * hN wd) = y at *
  generalize b1 c = z at *
  rw [decide_eq_decide]
  rcases hN_cases wd with h | h | h | h | h | h | h | h <;> rw [h] at h1 h2 ⊢ <;> simp only [Nat.reduceMul, Nat.reducePow] at * <;> omega
theorem turn_bit (a k : Nat) (wd : Int) (hk : k < 8 * hN wd) (i : Nat) : (turnN a k wd).testBit i = (decide (i < 8 * hN wd) && a.testBit ((i + (8 * hN wd - k)) % (8 * hN wd))) := by
  have hM := cN_lt a wd
  unfold turnN
  rw [Nat.testBit_or, Nat.testBit_mod_two_pow, Nat.testBit_mul_two_pow, Nat.testBit_div_two_pow]
  have hcb : ∀ j, (cN a wd).testBit j = (decide (j < 8 * hN wd) && a.testBit j) := fun j => by unfold cN; rw [Nat.testBit_mod_two_pow]
  rw [hcb, hcb]
  generalize 8 * hN wd = L at *
  by_cases hi : i < L
  · by_cases hik : k ≤ i
    · have e : (i + (L - k)) % L = i - k := by
        rw [show i + (L - k) = (i - k) + L by omega, Nat.add_mod_right, Nat.mod_eq_of_lt (by omega)]
      have h1 : ¬ i + (L - k) < L := by omega
      have h2 : i - k < L := by omega
      simp [hi, hik, e, h1, h2]
    · have e : (i + (L - k)) % L = i + (L - k) := Nat.mod_eq_of_lt (by omega)
      have h1 : i + (L - k) < L := by omega
      simp [hi, hik, e, h1]
  · have h1 : ¬ i + (L - k) < L := by omega
    simp [hi, h1]
theorem turn_lt (a k : Nat) (wd : Int) (hk : k < 8 * hN wd) : turnN a k wd < 2 ^ (8 * hN wd) := by
  apply Nat.lt_pow_two_of_testBit
  intro i hi
  rw [turn_bit a k wd hk]
  simp; omega
theorem turn_U (a k : Nat) (wd : Int) (hk : k < 8 * hN wd) : U (turnN a k wd) := Nat.lt_of_lt_of_le (turn_lt a k wd hk) (mN_lt wd)
theorem turn_turn (a k j : Nat) (wd : Int) (hk : k < 8 * hN wd) (hj : j < 8 * hN wd) : turnN (turnN a k wd) j wd = turnN a ((k + j) % (8 * hN wd)) wd := by
  have hL : 0 < 8 * hN wd := by omega
  apply Nat.eq_of_testBit_eq
  intro i
  rw [turn_bit _ _ _ hj, turn_bit _ _ _ hk, turn_bit _ _ _ (Nat.mod_lt _ hL)]
  generalize 8 * hN wd = L at *
  by_cases hi : i < L
  · have e : ((i + (L - j)) % L + (L - k)) % L = (i + (L - (k + j) % L)) % L := by
      rw [Nat.mod_add_mod]
      by_cases h : k + j < L
      · rw [Nat.mod_eq_of_lt h, show i + (L - j) + (L - k) = (i + (L - (k + j))) + L by omega, Nat.add_mod_right]
      · have e3 : (k + j) % L = k + j - L := by rw [Nat.mod_eq_sub_mod (by omega), Nat.mod_eq_of_lt (by omega)]
        rw [e3, show i + (L - j) + (L - k) = i + (L - (k + j - L)) by omega]
    simp [hi, e, Nat.mod_lt _ hL]
  · simp [hi]
theorem turn_zero (a : Nat) (wd : Int) : turnN a 0 wd = cN a wd := by
  have hb := hN_bd wd
  apply Nat.eq_of_testBit_eq
  intro i
  rw [turn_bit _ _ _ (by omega)]
  unfold cN
  rw [Nat.testBit_mod_two_pow]
  by_cases hi : i < 8 * hN wd
  · simp [hi, Nat.mod_eq_of_lt hi]
  · simp [hi]
theorem tN_val (n : Int) (wd : Int) : ((tN n wd : Nat) : Int) = n % (8 * hN wd) := by
  have hb := hN_bd wd
  unfold tN
  rw [hI_N, Int.toNat_of_nonneg (Int.emod_nonneg _ (by omega))]
theorem tN_add (n m : Int) (wd : Int) : (tN n wd + tN m wd) % (8 * hN wd) = tN (n + m) wd := by
  apply Int.ofNat.inj
  show (((tN n wd + tN m wd) % (8 * hN wd) : Nat) : Int) = ((tN (n + m) wd : Nat) : Int)
  rw [Int.natCast_emod, Int.natCast_add, tN_val, tN_val, tN_val]
  have e : ((8 * hN wd : Nat) : Int) = 8 * (hN wd : Int) := by omega
  rw [e, ← Int.add_emod]
theorem tN_zero_of (n : Int) (wd : Int) (h : n % (8 * hN wd) = 0) : tN n wd = 0 := by
  have := tN_val n wd; rw [h] at this; omega
theorem turn_back (a : Nat) (n : Int) (wd : Int) : turnN (turnN a (tN n wd) wd) (tN (-n) wd) wd = cN a wd := by
  rw [turn_turn _ _ _ _ (tN_lt n wd) (tN_lt (-n) wd), tN_add, tN_zero_of _ _ (by rw [Int.add_right_neg]; rfl), turn_zero]
theorem sB_bit (a : Nat) (wd : Int) : sB a wd = a.testBit (8 * hN wd - 1) := by
  unfold sB; rw [Nat.testBit_eq_decide_div_mod_eq]
theorem sB_cN (a : Nat) (wd : Int) : sB (cN a wd) wd = sB a wd := by
  have hb := hN_bd wd
  rw [sB_bit, sB_bit]; unfold cN; rw [Nat.testBit_mod_two_pow]
  have : 8 * hN wd - 1 < 8 * hN wd := by omega
  simp [this]
theorem ext_ext (a : Nat) (wd : Int) : eN (eN a wd) wd = eN a wd := by
  by_cases h : sB a wd = true
  · have e : eN a wd = a ||| (18446744073709551615 ^^^ (2 ^ (8 * hN wd) - 1)) := by unfold eN; rw [if_pos h]
    have h2 : sB (eN a wd) wd = true := by
      rw [sB_bit, e, Nat.testBit_or, ← sB_bit, h, Bool.true_or]
    have e2 : eN (eN a wd) wd = eN a wd ||| (18446744073709551615 ^^^ (2 ^ (8 * hN wd) - 1)) := if_pos h2
    rw [e2, e, Nat.or_assoc, Nat.or_self]
  · have e : eN a wd = cN a wd := by unfold eN; rw [if_neg h]
    have h2 : ¬ sB (eN a wd) wd = true := by rw [e, sB_cN]; exact h
    have e2 : eN (eN a wd) wd = cN (eN a wd) wd := if_neg h2
    rw [e2, e, cN_cN]
theorem eN_U (a : Nat) (ha : U a) (wd : Int) : U (eN a wd) := by
  unfold eN
  split
  · have hm := mN_lt wd
    have h0 : 0 < 2 ^ (8 * hN wd) := Nat.two_pow_pos _
    have e64 : (2 : Nat) ^ 64 = 18446744073709551616 := by decide
    unfold U at *
    rw [← e64] at *
    exact Nat.or_lt_two_pow ha (Nat.xor_lt_two_pow (by decide) (by omega))
  · exact cN_U a ha wd
end Go.Proofs.YtjnojonbaoecmaaDoor
