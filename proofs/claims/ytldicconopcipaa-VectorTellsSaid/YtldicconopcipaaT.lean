/- sundialref02.Clmul. -/
import Derived.Test.YtldicconopcipaaS
namespace Go.Proofs.Ytldicconopcipaa
open Go.RowKit Go.Shelf
set_option linter.unusedVariables false
set_option linter.unusedSimpArgs false
attribute [local go_sem] Oper.semAt_some
def mlI (a b k : Nat) : Int := ((mF a b k % 2 ^ 64 : Nat) : Int)
def mhI (a b k : Nat) : Int := ((mF a b k / 2 ^ 64 : Nat) : Int)
theorem mlI_same (a b k : Nat) (h : b.testBit k = false) : mlI a b (k + 1) = mlI a b k := by unfold mlI; rw [mF, h]; simp
theorem mhI_same (a b k : Nat) (h : b.testBit k = false) : mhI a b (k + 1) = mhI a b k := by unfold mhI; rw [mF, h]; simp
theorem mlI_more (a b k : Nat) (h : b.testBit k = true) : mlI a b (k + 1) = bits .xor .u64 (mlI a b k) (IntKind.u64.wrap ((a : Int) * 2 ^ k)) := by
  unfold mlI
  rw [mF, h, if_pos rfl, Nat.xor_mod_two_pow, wrap_shl, u64_xor_nat _ _ (lo_lt _) (lo_lt _)]
theorem mhI_more (a b k : Nat) (ha : U a) (hk : k + 1 ≤ 64) (h : b.testBit k = true) : mhI a b (k + 1) = bits .xor .u64 (mhI a b k) ((a : Int) / 2 ^ (64 - k)) := by
  have hlt := mF_lt a b k ha (by omega)
  have hl3 : a <<< k < 2 ^ 128 := by
    have h1 : a < 2 ^ 64 := ha
    rw [Nat.shiftLeft_eq]
    calc a * 2 ^ k < 2 ^ 64 * 2 ^ k := Nat.mul_lt_mul_of_pos_right h1 (Nat.two_pow_pos k)
      _ ≤ 2 ^ 64 * 2 ^ 64 := Nat.mul_le_mul_left _ (Nat.pow_le_pow_right (by decide) (by omega))
      _ = 2 ^ 128 := by decide
  unfold mhI
  rw [mF, h, if_pos rfl, Nat.xor_div_two_pow, shr_hi a k (by omega), u64_xor_nat _ _ (hi_lt _ hlt) (hi_lt _ hl3)]
theorem mhI_zero (a b : Nat) (ha : U a) : mhI a b (0 + 1) = 0 := by
  unfold mhI mF
  have h1 : a < 2 ^ 64 := ha
  simp only [mF, Nat.zero_xor]
  split
  · rw [Nat.shiftLeft_eq, Nat.pow_zero, Nat.mul_one, Nat.div_eq_of_lt h1]; rfl
  · rw [Nat.zero_div]; rfl
theorem bit_zero (b i : Nat) (hb : U b) : (bits .and .u64 ((b : Int) / 2 ^ i) 1 == 0) = !b.testBit i := by
  have e : ((b : Int) / 2 ^ i) = ((b / 2 ^ i : Nat) : Int) := by rw [Int.natCast_ediv]; simp
  have hl : b / 2 ^ i < 18446744073709551616 := Nat.lt_of_le_of_lt (Nat.div_le_self _ _) hb
  have h1 := u64_and_nat (b / 2 ^ i) 1 hl (by decide)
  rw [e, show bits .and .u64 ((b / 2 ^ i : Nat) : Int) 1 = _ from h1, Nat.and_one_is_mod, Nat.testBit_eq_decide_div_mod_eq]
  have h : b / 2 ^ i % 2 < 2 := Nat.mod_lt _ (by decide)
  generalize b / 2 ^ i % 2 = r at h
  match r, h with
  | 0, _ => rfl
  | 1, _ => rfl
set_option maxRecDepth 100000 in
set_option maxHeartbeats 2000000 in
theorem rclmul_any (a b : Nat) (ha : U a) (hb : U b) (w : World) :
    Calls Try.prog 17 #[.int .u64 (a : Int), .int .u64 (b : Int)] w fun e W' => e = .returned (.tuple #[.int .u64 (mL a b : Nat), .int .u64 (mH a b : Nat)]) ∧ Below w.heap.size w W' := by
  have HA := Lib.hid ha
  have HB := Lib.hid hb
  clear ha hb
  go_enter Try.func17, Try.ntmps17
  go_wp2_with fail
  go_loopw [6, 7, 8] (fun lo hi i W => ∃ k : Nat, k ≤ 64 ∧ i = .int .i64 k ∧ lo = .int .u64 (mlI a b k) ∧ hi = .int .u64 (mhI a b k) ∧ W = w) (fun _ _ i _ => 64 - (intOf i).toNat)
  case atStart => exact ⟨0, by omega, rfl, rfl, by unfold mhI mF; rfl, rfl⟩
  case round =>
    obtain ⟨k, hk, rfl, rfl, rfl, rfl⟩ := hrel
    by_cases hk64 : k < 64
    · have h0 := Lib.hid (bit_zero b k HB.out)
      go_wp2_with fail
      all_goals
        refine ⟨⟨k + 1, by omega, by simp, ?_, ?_, trivial⟩, by simp [intOf]; omega⟩
      all_goals
        first
        | (rename_i hq _; rw [h0.out] at hq)
        | (rename_i hq; rw [h0.out] at hq)
        have hq2 : b.testBit k = true ∨ b.testBit k = false := by cases b.testBit k <;> simp
        rcases hq2 with hq3 | hq3 <;> rw [hq3] at hq <;> try (cases hq; done)
      all_goals
        first
        | (rw [mlI_same _ _ _ hq3]; done)
        | (rw [mhI_same _ _ _ hq3]; done)
        | (rw [mlI_more _ _ _ hq3]; done)
        | (rw [mhI_more _ _ _ HA.out (by omega) hq3]; done)
        | (obtain rfl : k = 0 := by omega
           rw [mhI_zero _ _ HA.out]; unfold mhI mF; rfl)
    · obtain rfl : k = 64 := by omega
      go_wp2_with fail
      exact bodyPost_ret (v := .tuple #[.int .u64 (mlI a b 64), .int .u64 (mhI a b 64)]) (by simp [results, Try.results17, go_sem, *]) rfl ⟨rfl, Below.refl _ _⟩
end Go.Proofs.Ytldicconopcipaa
