/- What words of blocks are. -/
import Derived.Test.YtldicconopcipaaF
namespace Go.Proofs.Ytldicconopcipaa
open Go.RowKit
theorem numN_byN (a k : Nat) : numN (byN a) k = a % 2 ^ (8 * k) := by
  induction k with
  | zero => simp [numN, Nat.mod_one]
  | succ k ih =>
    have e : 2 ^ (8 * (k + 1)) = 2 ^ (8 * k) * 256 := by rw [Nat.mul_add, Nat.pow_add]
    have e2 : numN (byN a) (k + 1) = numN (byN a) k + byN a k * 2 ^ (8 * k) := rfl
    rw [e2, ih, e, Nat.mod_mul, Nat.mul_comm (byN a k)]; rfl
theorem numN_congr {f g : Nat → Nat} (k : Nat) (h : ∀ i, i < k → f i = g i) : numN f k = numN g k := by
  induction k with
  | zero => rfl
  | succ k ih => unfold numN; rw [ih (fun i hi => h i (by omega)), h k (by omega)]
theorem woN_low (low high : Nat) (h : U low) : woN (blF low high) 0 = low := by
  show numN (fun i => blF low high (8 * 0 + i)) 8 = low
  rw [numN_congr 8 (g := byN low) (fun i hi => by unfold blF; rw [if_pos (by omega)]; congr 1; omega), numN_byN]
  exact Nat.mod_eq_of_lt h
theorem woN_high (low high : Nat) (h : U high) : woN (blF low high) 1 = high := by
  show numN (fun i => blF low high (8 * 1 + i)) 8 = high
  rw [numN_congr 8 (g := byN high) (fun i hi => by unfold blF; rw [if_neg (by omega)]; congr 1; omega), numN_byN]
  exact Nat.mod_eq_of_lt h
theorem numN_xor (f g : Nat → Nat) (hf : ∀ j, f j < 256) (hg : ∀ j, g j < 256) (k : Nat) : numN (fun j => f j ^^^ g j) k = numN f k ^^^ numN g k := by
  induction k with
  | zero => simp [numN]
  | succ k ih =>
    have h1 := numN_lt f hf k
    have h2 := numN_lt g hg k
    have h3 : numN f k ^^^ numN g k < 2 ^ (8 * k) := Nat.xor_lt_two_pow h1 h2
    unfold numN
    rw [ih]
    apply Nat.eq_of_testBit_eq
    intro j
    rw [Nat.add_comm (numN f k ^^^ numN g k), Nat.add_comm (numN f k), Nat.add_comm (numN g k), Nat.mul_comm (f k ^^^ g k), Nat.mul_comm (f k), Nat.mul_comm (g k)]
    rw [Nat.testBit_xor, Nat.testBit_two_pow_mul_add _ h3, Nat.testBit_two_pow_mul_add _ h1, Nat.testBit_two_pow_mul_add _ h2]
    split <;> rw [Nat.testBit_xor]
theorem woN_xor (f g : Nat → Nat) (hf : ∀ j, f j < 256) (hg : ∀ j, g j < 256) (j : Nat) : woN (fun i => f i ^^^ g i) j = woN f j ^^^ woN g j :=
  numN_xor (fun i => f (8 * j + i)) (fun i => g (8 * j + i)) (fun _ => hf _) (fun _ => hg _) 8
end Go.Proofs.Ytldicconopcipaa
