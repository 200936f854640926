/- The contract of math/bits.Div64: a walk of one of its loops. -/
import Derived.Test.YtmfoeolllobidaaDoorZeros
namespace Go.Proofs.YtmfoeolllobidaaDoor
open Go.RowKit
/-- What one round of a loop comes to. -/
theorem round_ways (V T1 Y1 Y0 n m : Nat) (h1 : 2147483648 ≤ Y1) (h1' : Y1 < 4294967296) (h0 : Y0 < 4294967296) (hT : T1 < 4294967296) (hV : V < Y1 * 4294967296 + Y0) (hn : n ≤ 4294967297) (hm : m < 4294967296) (hG : Guess V T1 Y1 Y0 n m) :
    ∃ n' m' p u v : Nat, IntKind.u64.wrap ((n : Int) - 1) = (n' : Int) ∧ IntKind.u64.wrap ((m : Int) + (Y1 : Int)) = (m' : Int) ∧ IntKind.u64.wrap ((n : Int) * (Y0 : Int)) = (p : Int) ∧ IntKind.u64.wrap (4294967296 * (m : Int)) = (u : Int) ∧ IntKind.u64.wrap ((u : Int) + (T1 : Int)) = (v : Int) ∧
      ((decide ((4294967296 : Int) ≤ (n : Int)) = true ∧ decide ((4294967296 : Int) ≤ (m' : Int)) = true ∧ n' = qD V T1 (Y1 * 4294967296 + Y0)) ∨
       (decide ((4294967296 : Int) ≤ (n : Int)) = true ∧ decide ((4294967296 : Int) ≤ (m' : Int)) = false ∧ n' < n ∧ n' ≤ 4294967297 ∧ m' < 4294967296 ∧ Guess V T1 Y1 Y0 n' m') ∨
       (decide ((4294967296 : Int) ≤ (n : Int)) = false ∧ v < p ∧ decide ((4294967296 : Int) ≤ (m' : Int)) = true ∧ n' = qD V T1 (Y1 * 4294967296 + Y0)) ∨
       (decide ((4294967296 : Int) ≤ (n : Int)) = false ∧ v < p ∧ decide ((4294967296 : Int) ≤ (m' : Int)) = false ∧ n' < n ∧ n' ≤ 4294967297 ∧ m' < 4294967296 ∧ Guess V T1 Y1 Y0 n' m') ∨
       (decide ((4294967296 : Int) ≤ (n : Int)) = false ∧ ¬ v < p ∧ n = qD V T1 (Y1 * 4294967296 + Y0))) := by
  have hy : 0 < Y1 * 4294967296 + Y0 := by omega
  have hq := qD_lt V T1 (Y1 * 4294967296 + Y0) hV hT
  have hu : IntKind.u64.wrap (4294967296 * (m : Int)) = ((4294967296 * m : Nat) : Int) := by
    rw [show (4294967296 * (m : Int)) = ((4294967296 * m : Nat) : Int) by omega]; exact wrapU _ (by omega)
  have hv : IntKind.u64.wrap (((4294967296 * m : Nat) : Int) + (T1 : Int)) = ((4294967296 * m + T1 : Nat) : Int) := by
    rw [show (((4294967296 * m : Nat) : Int) + (T1 : Int)) = ((4294967296 * m + T1 : Nat) : Int) by omega]; exact wrapU _ (by omega)
  have hm' : IntKind.u64.wrap ((m : Int) + (Y1 : Int)) = ((m + Y1 : Nat) : Int) := by
    rw [show ((m : Int) + (Y1 : Int)) = ((m + Y1 : Nat) : Int) by omega]; exact wrapU _ (by omega)
  have hp : IntKind.u64.wrap ((n : Int) * (Y0 : Int)) = ((n * Y0 % 18446744073709551616 : Nat) : Int) := by
    rw [IntKind.wrap_u64, ← Int.natCast_mul]; rfl
  by_cases hA : 4294967296 ≤ n
  · have hlt : qD V T1 (Y1 * 4294967296 + Y0) < n := by omega
    have hG' := guess_next hG hlt
    have hn' : IntKind.u64.wrap ((n : Int) - 1) = ((n - 1 : Nat) : Int) := by
      rw [show ((n : Int) - 1) = ((n - 1 : Nat) : Int) by omega]; exact wrapU _ (by omega)
    refine ⟨_, _, _, _, _, hn', hm', hp, hu, hv, ?_⟩
    by_cases hB : 4294967296 ≤ m + Y1
    · exact .inl ⟨decide_eq_true (by omega), decide_eq_true (by omega), guess_far hy h0 hG' (by omega) hB⟩
    · exact .inr (.inl ⟨decide_eq_true (by omega), decide_eq_false (by omega), by omega, by omega, by omega, hG'⟩)
  · have hpl : n * Y0 < 18446744073709551616 := by
      have : n * Y0 ≤ 4294967295 * 4294967295 := Nat.mul_le_mul (by omega) (by omega)
      omega
    have hpe : n * Y0 % 18446744073709551616 = n * Y0 := Nat.mod_eq_of_lt hpl
    rw [hpe] at hp
    by_cases hC : 4294967296 * m + T1 < n * Y0
    · have hlt := guess_over hy hG hC
      have hG' := guess_next hG hlt
      have hn' : IntKind.u64.wrap ((n : Int) - 1) = ((n - 1 : Nat) : Int) := by
        rw [show ((n : Int) - 1) = ((n - 1 : Nat) : Int) by omega]; exact wrapU _ (by omega)
      refine ⟨_, _, _, _, _, hn', hm', hp, hu, hv, ?_⟩
      by_cases hB : 4294967296 ≤ m + Y1
      · exact .inr (.inr (.inl ⟨decide_eq_false (by omega), by omega, decide_eq_true (by omega), guess_far hy h0 hG' (by omega) hB⟩))
      · exact .inr (.inr (.inr (.inl ⟨decide_eq_false (by omega), by omega, decide_eq_false (by omega), by omega, by omega, by omega, hG'⟩)))
    · have hn' : IntKind.u64.wrap ((n : Int) - 1) = (((n + 18446744073709551615) % 18446744073709551616 : Nat) : Int) := by
        rw [IntKind.wrap_u64]; omega
      refine ⟨_, _, _, _, _, hn', hm', hp, hu, hv, ?_⟩
      exact .inr (.inr (.inr (.inr ⟨decide_eq_false (by omega), by omega, guess_done hy hG (by omega)⟩)))
end Go.Proofs.YtmfoeolllobidaaDoor
