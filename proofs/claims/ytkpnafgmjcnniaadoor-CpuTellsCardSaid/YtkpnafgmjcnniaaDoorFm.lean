/- Numbers with signs, of one or four bytes. -/
import Derived.Test.YtkpnafgmjcnniaaDoorTk
namespace Go.Proofs.YtkpnafgmjcnniaaDoor
open Go.RowKit
theorem or_high (a k : Nat) (ha : a < 18446744073709551616) (hk : k ≤ 64) : a ||| (18446744073709551615 ^^^ (2 ^ k - 1)) = (18446744073709551615 ^^^ (2 ^ k - 1)) ||| (a % 2 ^ k) := by
  have e64 : (18446744073709551616 : Nat) = 2 ^ 64 := by decide
  have e63 : (18446744073709551615 : Nat) = 2 ^ 64 - 1 := by decide
  rw [e64] at ha
  rw [e63]
  apply Nat.eq_of_testBit_eq
  intro i
  simp only [Nat.testBit_or, Nat.testBit_xor, Nat.testBit_mod_two_pow, Nat.testBit_two_pow_sub_one]
  by_cases h1 : i < 64
  · by_cases h2 : i < k <;> simp [h1, h2]
  · have hz : a.testBit i = false := Nat.testBit_lt_two_pow (Nat.lt_of_lt_of_le ha (Nat.pow_le_pow_right (by decide) (by omega)))
    have h2 : ¬ i < k := by omega
    simp [h1, h2, hz]
theorem mask_val (k : Nat) (hk : k ≤ 64) : 18446744073709551615 ^^^ (2 ^ k - 1) = 2 ^ k * (2 ^ (64 - k) - 1) := by
  have h : ∀ k : Fin 65, 18446744073709551615 ^^^ (2 ^ k.val - 1) = 2 ^ k.val * (2 ^ (64 - k.val) - 1) := by decide +kernel
  exact h ⟨k, by omega⟩
theorem eN_val (a : Nat) (ha : U a) (wd : Int) (k : Nat) (hk : k = 8 * hN wd) : eN a wd = if a / 2 ^ (k - 1) % 2 = 1 then 18446744073709551616 - 2 ^ k + a % 2 ^ k else a % 2 ^ k := by
  have hb := hN_bd wd
  have hs : sB a wd = decide (a / 2 ^ (k - 1) % 2 = 1) := by rw [hk]; rfl
  unfold eN cN
  rw [hs, ← hk]
  by_cases h : a / 2 ^ (k - 1) % 2 = 1
  · simp only [h, decide_true, if_true]
    rw [or_high a k ha (by omega), mask_val k (by omega), ← Nat.two_pow_add_eq_or_of_lt (Nat.mod_lt _ (Nat.two_pow_pos k))]
    congr 1
    have e : 2 ^ k * 2 ^ (64 - k) = 2 ^ 64 := by rw [← Nat.pow_add]; congr 1; omega
    rw [Nat.mul_sub, e]; simp
  · simp [h]
theorem fB_one (n : Int) (h0 : -9223372036854775808 ≤ n) (h1 : n ≤ 9223372036854775807) : fB n 1 = decide (-128 ≤ n ∧ n ≤ 127) := by
  unfold fB
  have e := eN_val (uN n) (uN_U n) 1 8 (by decide)
  rw [e]
  have hu : ((uN n : Nat) : Int) = n % 18446744073709551616 := by unfold uN; omega
  generalize uN n = a at hu
  rw [Bool.eq_iff_iff]
  simp only [beq_iff_eq, decide_eq_true_eq]
  simp only [show (2 : Nat) ^ (8 - 1) = 128 from rfl, show (2 : Nat) ^ 8 = 256 from rfl]
  split <;> omega
theorem fB_four (n : Int) (h0 : -9223372036854775808 ≤ n) (h1 : n ≤ 9223372036854775807) : fB n 4 = decide (-2147483648 ≤ n ∧ n ≤ 2147483647) := by
  unfold fB
  have e := eN_val (uN n) (uN_U n) 4 32 (by decide)
  rw [e]
  have hu : ((uN n : Nat) : Int) = n % 18446744073709551616 := by unfold uN; omega
  generalize uN n = a at hu
  rw [Bool.eq_iff_iff]
  simp only [beq_iff_eq, decide_eq_true_eq]
  simp only [show (2 : Nat) ^ (32 - 1) = 2147483648 from rfl, show (2 : Nat) ^ 32 = 4294967296 from rfl]
  split <;> omega
theorem numN_byN (a k : Nat) : numN (byN a) k = a % 2 ^ (8 * k) := by
  induction k with
  | zero => simp [numN, Nat.mod_one]
  | succ k ih =>
    have e : 2 ^ (8 * (k + 1)) = 2 ^ (8 * k) * 256 := by rw [Nat.mul_add, Nat.pow_add]
    have e2 : numN (byN a) (k + 1) = numN (byN a) k + byN a k * 2 ^ (8 * k) := rfl
    rw [e2, ih, e, Nat.mod_mul, Nat.mul_comm (byN a k)]; rfl
theorem numN_congr {f g : Nat → Nat} (k : Nat) (h : ∀ i, i < k → f i = g i) : numN f k = numN g k := by
  induction k with
  | zero => rfl
  | succ k ih => unfold numN; rw [ih (fun i hi => h i (by omega)), h k (by omega)]
theorem dI_back (z : Nat → Nat) (k : Nat) (n : Int) (h0 : -9223372036854775808 ≤ n) (h1 : n ≤ 9223372036854775807) (wd : Nat) (hw : wd = 1 ∨ wd = 4) (hf : fB n wd = true) (hz : ∀ j, j < wd → z (k + j) = byN (uN n) j) : dI z k wd = n := by
  have e1 : numN (fun j => z (k + j)) wd = uN n % 2 ^ (8 * wd) := by rw [numN_congr wd (g := byN (uN n)) hz, numN_byN]
  have hu : ((uN n : Nat) : Int) = n % 18446744073709551616 := by unfold uN; omega
  have hU := uN_U n
  unfold dI
  rw [e1]
  unfold fB at hf
  simp only [beq_iff_eq] at hf
  have hf2 : eN (uN n) wd = uN n := by omega
  generalize uN n = a at hu hU hf2
  unfold U at hU
  have key : eN (a % 2 ^ (8 * wd)) wd = a := by
    rcases hw with rfl | rfl
    · have q1 := eN_val a hU (1 : Nat) 8 (by decide)
      have q2 := eN_val (a % 256) (by unfold U; omega) (1 : Nat) 8 (by decide)
      rw [show (2 : Nat) ^ (8 * 1) = 256 from rfl]
      rw [q1] at hf2
      rw [q2]
      simp only [show (2 : Nat) ^ (8 - 1) = 128 from rfl, show (2 : Nat) ^ 8 = 256 from rfl] at hf2 ⊢
      split at hf2 <;> split <;> omega
    · have q1 := eN_val a hU (4 : Nat) 32 (by decide)
      have q2 := eN_val (a % 4294967296) (by unfold U; omega) (4 : Nat) 32 (by decide)
      rw [show (2 : Nat) ^ (8 * 4) = 4294967296 from rfl]
      rw [q1] at hf2
      rw [q2]
      simp only [show (2 : Nat) ^ (32 - 1) = 2147483648 from rfl, show (2 : Nat) ^ 32 = 4294967296 from rfl] at hf2 ⊢
      split at hf2 <;> split <;> omega
  rw [key]
  unfold wrap64
  omega
theorem dI_nil (z : Nat → Nat) (k : Nat) : dI z k 0 = 0 := by
  unfold dI
  show wrap64 ((eN 0 ((0 : Nat) : Int) : Nat) : Int) = 0
  decide +kernel
end Go.Proofs.YtkpnafgmjcnniaaDoor
