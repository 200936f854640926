/- The document's own quotients are the program's. -/
import Derived.Test.YtmfoeolllobidaaDoorRa
import Derived.Test.YtmfoeolllobidaaDoorAdiv
import Derived.Test.YtmfoeolllobidaaDoorDivs
import Derived.Test.YtmfoeolllobidaaDoorMuls
import Derived.Test.YtmfoeolllobidaaDoorClo
namespace Go.Proofs.YtmfoeolllobidaaDoor
open Go.RowKit
def dN (H L K t : Nat) : Nat := H * 2 ^ t + L / 2 ^ (K - t)
def dR (H L K D t : Nat) : Nat := dN H L K t % D
def dQ (H L K D t : Nat) : Nat := dN H L K t / D * 2 ^ (K - t)
def dB (L j : Nat) : Nat := L / 2 ^ j % 2
def dM (H L K D t : Nat) : Nat := 2 * dR H L K D t % 18446744073709551616 + dB L (K - t - 1)
theorem dN_succ (H L K t j : Nat) (h : K = t + j + 1) : dN H L K (t + 1) = 2 * dN H L K t + dB L j := by
  unfold dN dB
  have e1 : K - (t + 1) = j := by omega
  have e2 : K - t = j + 1 := by omega
  rw [e1, e2, Nat.pow_succ 2 t, Nat.pow_succ 2 j, ← Nat.div_div_eq_div_mul]
  have e3 : H * (2 ^ t * 2) = 2 * (H * 2 ^ t) := by rw [← Nat.mul_assoc, Nat.mul_comm]
  rw [e3]
  generalize L / 2 ^ j = q
  omega
theorem dN_lt (H L K D t : Nat) (ht : t ≤ K) (hH : H < D) (hL : L < 2 ^ K) : dN H L K t < D * 2 ^ t := by
  unfold dN
  have h1 : L / 2 ^ (K - t) < 2 ^ t := by
    rw [Nat.div_lt_iff_lt_mul (Nat.two_pow_pos _), ← Nat.pow_add, show t + (K - t) = K by omega]
    exact hL
  have h2 : (H + 1) * 2 ^ t ≤ D * 2 ^ t := Nat.mul_le_mul_right _ hH
  rw [Nat.add_mul, Nat.one_mul] at h2
  omega
theorem dQ_lt (H L K D t : Nat) (ht : t ≤ K) (hH : H < D) (hL : L < 2 ^ K) : dQ H L K D t < 2 ^ K := by
  unfold dQ
  have h1 : dN H L K t / D < 2 ^ t := by
    rw [Nat.div_lt_iff_lt_mul (by omega), Nat.mul_comm]
    exact dN_lt H L K D t ht hH hL
  have : dN H L K t / D * 2 ^ (K - t) < 2 ^ t * 2 ^ (K - t) := Nat.mul_lt_mul_of_pos_right h1 (Nat.two_pow_pos _)
  rwa [← Nat.pow_add, show t + (K - t) = K by omega] at this
theorem div_two (N D b : Nat) (hD : 0 < D) (hb : b ≤ 1) :
    (D ≤ 2 * (N % D) + b ∧ (2 * N + b) % D = 2 * (N % D) + b - D ∧ (2 * N + b) / D = 2 * (N / D) + 1) ∨ (2 * (N % D) + b < D ∧ (2 * N + b) % D = 2 * (N % D) + b ∧ (2 * N + b) / D = 2 * (N / D)) := by
  have h1 := Nat.div_add_mod N D
  have h2 := Nat.mod_lt N hD
  by_cases h : D ≤ 2 * (N % D) + b
  · left
    have e : 2 * N + b = (2 * (N % D) + b - D) + D * (2 * (N / D) + 1) := by
      rw [Nat.mul_add, Nat.mul_one, show D * (2 * (N / D)) = 2 * (D * (N / D)) from by rw [Nat.mul_left_comm]]
      omega
    refine ⟨h, ?_, ?_⟩
    · rw [e, Nat.add_mul_mod_self_left]; exact Nat.mod_eq_of_lt (by omega)
    · rw [e, Nat.add_mul_div_left _ _ hD, Nat.div_eq_of_lt (by omega), Nat.zero_add]
  · right
    have e : 2 * N + b = (2 * (N % D) + b) + D * (2 * (N / D)) := by
      rw [show D * (2 * (N / D)) = 2 * (D * (N / D)) from by rw [Nat.mul_left_comm]]
      omega
    refine ⟨by omega, ?_, ?_⟩
    · rw [e, Nat.add_mul_mod_self_left]; exact Nat.mod_eq_of_lt (by omega)
    · rw [e, Nat.add_mul_div_left _ _ hD, Nat.div_eq_of_lt (by omega), Nat.zero_add]
theorem d_steps (H L K D : Nat) (hK : K ≤ 64) (hH : H < D) (hD : D < 18446744073709551616) (hL : L < 2 ^ K) (hLU : U L) (t j : Nat) (h : K = t + j + 1) :
    bits .or .u64 (IntKind.u64.wrap ((dR H L K D t : Int) * 2)) (bits .and .u64 ((L : Int) / 2 ^ j) 1) = (dM H L K D t : Int) ∧
      ((((dR H L K D t : Int) / 9223372036854775808 == 1) = true ∧ IntKind.u64.wrap ((dM H L K D t : Int) - D) = (dR H L K D (t + 1) : Int) ∧ bits .or .u64 (dQ H L K D t : Int) (IntKind.u64.wrap (2 ^ j)) = (dQ H L K D (t + 1) : Int)) ∨
       (((dR H L K D t : Int) / 9223372036854775808 == 1) = false ∧ (D : Int) ≤ dM H L K D t ∧ IntKind.u64.wrap ((dM H L K D t : Int) - D) = (dR H L K D (t + 1) : Int) ∧ bits .or .u64 (dQ H L K D t : Int) (IntKind.u64.wrap (2 ^ j)) = (dQ H L K D (t + 1) : Int)) ∨
       (((dR H L K D t : Int) / 9223372036854775808 == 1) = false ∧ ¬ (D : Int) ≤ dM H L K D t ∧ dM H L K D t = dR H L K D (t + 1) ∧ dQ H L K D t = dQ H L K D (t + 1))) := by
  have hj : K - t - 1 = j := by omega
  have hR : dR H L K D t < D := Nat.mod_lt _ (by omega)
  have hb : dB L j ≤ 1 := by unfold dB; omega
  have hM : dM H L K D t = 2 * dR H L K D t % 18446744073709551616 + dB L j := by unfold dM; rw [hj]
  refine ⟨?_, ?_⟩
  · rw [hM]
    have e1 : IntKind.u64.wrap ((dR H L K D t : Int) * 2) = ((2 * dR H L K D t % 18446744073709551616 : Nat) : Int) := by
      rw [IntKind.wrap_u64]; generalize dR H L K D t = r; omega
    have e2 : ((L : Int) / 2 ^ j) = ((L / 2 ^ j : Nat) : Int) := by rw [Int.natCast_ediv]; simp
    have hlt : U (L / 2 ^ j) := Nat.lt_of_le_of_lt (Nat.div_le_self _ _) hLU
    rw [e1, e2, and1 _ hlt, u64_or_nat _ _ (Nat.mod_lt _ (by decide)) (by omega), nat_join 1 _ _ (by omega) (by omega)]
    rfl
  · have hN := dN_succ H L K t j h
    have hdv := div_two (dN H L K t) D (dB L j) (by omega) hb
    rw [← hN] at hdv
    have eR : dR H L K D t = dN H L K t % D := rfl
    have eR' : dR H L K D (t + 1) = dN H L K (t + 1) % D := rfl
    rw [← eR, ← eR'] at hdv
    have hQl := dQ_lt H L K D t (by omega) hH hL
    have hp : 2 ^ K ≤ 18446744073709551616 := by
      have := Nat.pow_le_pow_right (by decide : 0 < 2) hK
      simpa using this
    have hpj : 2 ^ j < 18446744073709551616 := Nat.lt_of_lt_of_le (Nat.pow_lt_pow_right (by decide : 1 < 2) (show j < 64 by omega)) (by decide)
    have eQ : dQ H L K D t = dN H L K t / D * 2 ^ (j + 1) := by unfold dQ; rw [show K - t = j + 1 by omega]
    have eQ' : dQ H L K D (t + 1) = dN H L K (t + 1) / D * 2 ^ j := by unfold dQ; rw [show K - (t + 1) = j by omega]
    have up : dN H L K (t + 1) / D = 2 * (dN H L K t / D) + 1 → bits .or .u64 (dQ H L K D t : Int) (IntKind.u64.wrap (2 ^ j)) = (dQ H L K D (t + 1) : Int) := fun e => by
      have ew : IntKind.u64.wrap (2 ^ j) = ((2 ^ j : Nat) : Int) := by rw [show ((2 : Int) ^ j) = ((2 ^ j : Nat) : Int) from by simp]; exact wrapU _ hpj
      have hq : dQ H L K D t < 18446744073709551616 := by omega
      rw [ew, u64_or_nat _ _ hq hpj, nat_join (j + 1) _ _ (by rw [eQ]; exact Nat.mul_mod_left _ _) (by rw [Nat.pow_succ]; have := Nat.two_pow_pos j; omega), eQ, eQ', e, Nat.add_mul, Nat.one_mul, Nat.pow_succ, ← Nat.mul_assoc, Nat.mul_right_comm _ (2 ^ j) 2, Nat.mul_comm (dN H L K t / D) 2]
    have same : dN H L K (t + 1) / D = 2 * (dN H L K t / D) → dQ H L K D t = dQ H L K D (t + 1) := fun e => by
      rw [eQ, eQ', e, Nat.pow_succ, ← Nat.mul_assoc, Nat.mul_right_comm _ (2 ^ j) 2, Nat.mul_comm (dN H L K t / D) 2]
    have beq : ∀ b : Bool, (((dR H L K D t : Int) / 9223372036854775808 == 1) = b) ↔ (decide (9223372036854775808 ≤ dR H L K D t) = b) := fun b => by
      have : ((dR H L K D t : Int) / 9223372036854775808 == 1) = decide (9223372036854775808 ≤ dR H L K D t) := by
        rw [Bool.eq_iff_iff]; simp only [beq_iff_eq, decide_eq_true_eq]; omega
      rw [this]
    simp only [beq, hM, IntKind.wrap_u64] at *
    clear eQ eQ' beq hN eR eR' hQl
    generalize dR H L K D t = r at *
    generalize dR H L K D (t + 1) = r' at *
    generalize dB L j = b at *
    simp only [decide_eq_true_eq, decide_eq_false_iff_not]
    rcases hdv with ⟨v1, v2, v3⟩ | ⟨v1, v2, v3⟩
    · by_cases ho : 9223372036854775808 ≤ r
      · exact .inl ⟨ho, by omega, up v3⟩
      · exact .inr (.inl ⟨ho, by omega, by omega, up v3⟩)
    · exact .inr (.inr ⟨by omega, by omega, by omega, same v3⟩)
end Go.Proofs.YtmfoeolllobidaaDoor
