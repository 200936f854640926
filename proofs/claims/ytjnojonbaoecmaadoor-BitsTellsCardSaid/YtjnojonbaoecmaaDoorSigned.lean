/- Plain numbers: words of one to four bytes with their signs. -/
import Derived.Test.YtjnojonbaoecmaaDoorMath
namespace Go.Proofs.YtjnojonbaoecmaaDoor
open Go.RowKit
theorem or_high (a k : Nat) (ha : a < 18446744073709551616) (hk : k ≤ 64) : a ||| (18446744073709551615 ^^^ (2 ^ k - 1)) = (18446744073709551615 ^^^ (2 ^ k - 1)) ||| (a % 2 ^ k) := by
  have e64 : (18446744073709551616 : Nat) = 2 ^ 64 := by decide
  have e63 : (18446744073709551615 : Nat) = 2 ^ 64 - 1 := by decide
  rw [e64] at ha
  rw [e63]
  apply Nat.eq_of_testBit_eq
  intro i
  simp only [Nat.testBit_or, Nat.testBit_xor, Nat.testBit_mod_two_pow, Nat.testBit_two_pow_sub_one]
  by_cases h1 : i < 64
  · by_cases h2 : i < k <;> simp [h1, h2]
  · have hz : a.testBit i = false := Nat.testBit_lt_two_pow (Nat.lt_of_lt_of_le ha (Nat.pow_le_pow_right (by decide) (by omega)))
    have h2 : ¬ i < k := by omega
    simp [h1, h2, hz]
/-- A word of some bytes as a signed number. -/
def sgI (a : Nat) (wd : Int) : Int := if sB a wd then (cN a wd : Int) - ((2 ^ (8 * hN wd) : Nat) : Int) else cN a wd
theorem w4_cases {wd : Int} (h1 : ¬ wd < 1) (h2 : ¬ 4 < wd) : wd = 1 ∨ wd = 2 ∨ wd = 3 ∨ wd = 4 := by omega
theorem hN1 : hN 1 = 1 := by decide
theorem hN2 : hN 2 = 2 := by decide
theorem hN3 : hN 3 = 3 := by decide
theorem hN4 : hN 4 = 4 := by decide
theorem ext_signed (a : Nat) (ha : U a) (wd : Int) (h1 : ¬ wd < 1) (h2 : ¬ 4 < wd) : wrap64 ((eN a wd : Nat) : Int) = sgI a wd := by
  have hb := hN_bd wd
  have e := or_high a (8 * hN wd) ha (by omega)
  unfold eN sgI
  have hc := cN_lt a wd
  by_cases hs : sB a wd = true
  · rw [if_pos hs, if_pos hs, e]
    change _ = ((cN a wd : Nat) : Int) - _
    change wrap64 (((_ ||| cN a wd) : Nat) : Int) = _
    generalize cN a wd = r at *
    clear e hs ha
    rcases w4_cases h1 h2 with rfl | rfl | rfl | rfl
    · rw [hN1] at *; simp only [Nat.reduceMul, Nat.reducePow, Nat.reduceSub, Nat.reduceXor] at *; rw [nat_join 8 _ _ (by decide) (by omega)]; unfold wrap64; omega
    · rw [hN2] at *; simp only [Nat.reduceMul, Nat.reducePow, Nat.reduceSub, Nat.reduceXor] at *; rw [nat_join 16 _ _ (by decide) (by omega)]; unfold wrap64; omega
    · rw [hN3] at *; simp only [Nat.reduceMul, Nat.reducePow, Nat.reduceSub, Nat.reduceXor] at *; rw [nat_join 24 _ _ (by decide) (by omega)]; unfold wrap64; omega
    · rw [hN4] at *; simp only [Nat.reduceMul, Nat.reducePow, Nat.reduceSub, Nat.reduceXor] at *; rw [nat_join 32 _ _ (by decide) (by omega)]; unfold wrap64; omega
  · rw [if_neg hs, if_neg hs]
    have : cN a wd < 2 ^ 32 := Nat.lt_of_lt_of_le hc (Nat.pow_le_pow_right (by decide) (by unfold hN hI; repeat' split
                                                                                           all_goals omega))
    unfold wrap64; omega
/-- Half of all words of some bytes. -/
def topI (wd : Int) : Int := ((2 ^ (8 * hN wd - 1) : Nat) : Int)
theorem top_val (wd : Int) (h1 : ¬ wd < 1) (h2 : ¬ 4 < wd) : wrap64 (2 ^ ((8 * wd).toNat - 1)) = topI wd := by
  rcases w4_cases h1 h2 with rfl | rfl | rfl | rfl <;> decide +kernel
theorem cut_val (a : Nat) (wd : Int) (h1 : ¬ wd < 1) (h2 : ¬ 4 < wd) : wrap64 ((cN a wd : Nat) : Int) = cN a wd := by
  have hc := cN_lt a wd
  generalize cN a wd = r at *
  unfold wrap64
  rcases w4_cases h1 h2 with rfl | rfl | rfl | rfl
  · rw [hN1] at *; simp only [Nat.reduceMul, Nat.reducePow] at *; omega
  · rw [hN2] at *; simp only [Nat.reduceMul, Nat.reducePow] at *; omega
  · rw [hN3] at *; simp only [Nat.reduceMul, Nat.reducePow] at *; omega
  · rw [hN4] at *; simp only [Nat.reduceMul, Nat.reducePow] at *; omega
theorem sg_bd (a : Nat) (wd : Int) (h1 : ¬ wd < 1) (h2 : ¬ 4 < wd) : -2147483648 ≤ sgI a wd ∧ sgI a wd ≤ 2147483647 := by
  have hc := cN_lt a wd
  rw [show sgI a wd = if sB (cN a wd) wd then (cN a wd : Int) - ((2 ^ (8 * hN wd) : Nat) : Int) else cN a wd by rw [sB_cN]; rfl]
  generalize cN a wd = r at *
  unfold sB
  rcases w4_cases h1 h2 with rfl | rfl | rfl | rfl
  · rw [hN1] at *; simp only [Nat.reduceMul, Nat.reducePow, Nat.reduceSub, decide_eq_true_eq] at *; split <;> omega
  · rw [hN2] at *; simp only [Nat.reduceMul, Nat.reducePow, Nat.reduceSub, decide_eq_true_eq] at *; split <;> omega
  · rw [hN3] at *; simp only [Nat.reduceMul, Nat.reducePow, Nat.reduceSub, decide_eq_true_eq] at *; split <;> omega
  · rw [hN4] at *; simp only [Nat.reduceMul, Nat.reducePow, Nat.reduceSub, decide_eq_true_eq] at *; split <;> omega
theorem bool_eq {p : Bool} {q : Prop} [Decidable q] (h : p = true ↔ q) : p = decide q := by rw [Bool.eq_iff_iff]; simp [h]
theorem addV_val (a b : Nat) (c : Bool) (wd : Int) (h1 : ¬ wd < 1) (h2 : ¬ 4 < wd) :
    addV a b c wd = decide (topI wd ≤ sgI a wd + sgI b wd + b1 c ∨ sgI a wd + sgI b wd + b1 c < - topI wd) := by
  have hc := b1_le c
  have ha := cN_lt a wd
  have hb := cN_lt b wd
  have e : addV a b c wd = vB true (sB (cN a wd) wd) (sB (cN b wd) wd) (sB (addR a b c wd) wd) := rfl
  rw [e, addR_val]
  rw [show sgI a wd = if sB (cN a wd) wd then (cN a wd : Int) - ((2 ^ (8 * hN wd) : Nat) : Int) else cN a wd by rw [sB_cN]; rfl]
  rw [show sgI b wd = if sB (cN b wd) wd then (cN b wd : Int) - ((2 ^ (8 * hN wd) : Nat) : Int) else cN b wd by rw [sB_cN]; rfl]
  clear e
  generalize cN a wd = x at *
  generalize cN b wd = y at *
  generalize b1 c = z at *
  apply bool_eq
  unfold vB sB topI
  rcases w4_cases h1 h2 with rfl | rfl | rfl | rfl
  · rw [hN1] at *; simp only [Nat.reduceMul, Nat.reducePow, Nat.reduceSub, Bool.and_eq_true, beq_iff_eq, bne_iff_ne, ne_eq, decide_eq_decide, decide_eq_true_eq] at *; split <;> split <;> omega
  · rw [hN2] at *; simp only [Nat.reduceMul, Nat.reducePow, Nat.reduceSub, Bool.and_eq_true, beq_iff_eq, bne_iff_ne, ne_eq, decide_eq_decide, decide_eq_true_eq] at *; split <;> split <;> omega
  · rw [hN3] at *; simp only [Nat.reduceMul, Nat.reducePow, Nat.reduceSub, Bool.and_eq_true, beq_iff_eq, bne_iff_ne, ne_eq, decide_eq_decide, decide_eq_true_eq] at *; split <;> split <;> omega
  · rw [hN4] at *; simp only [Nat.reduceMul, Nat.reducePow, Nat.reduceSub, Bool.and_eq_true, beq_iff_eq, bne_iff_ne, ne_eq, decide_eq_decide, decide_eq_true_eq] at *; split <;> split <;> omega
theorem subV_val (a b : Nat) (c : Bool) (wd : Int) (h1 : ¬ wd < 1) (h2 : ¬ 4 < wd) :
    subV a b c wd = decide (topI wd ≤ sgI a wd - sgI b wd - b1 c ∨ sgI a wd - sgI b wd - b1 c < - topI wd) := by
  have hc := b1_le c
  have ha := cN_lt a wd
  have hb := cN_lt b wd
  have e : subV a b c wd = vB false (sB (cN a wd) wd) (sB (cN b wd) wd) (sB (subR a b c wd) wd) := rfl
  rw [e, subR_val]
  rw [show sgI a wd = if sB (cN a wd) wd then (cN a wd : Int) - ((2 ^ (8 * hN wd) : Nat) : Int) else cN a wd by rw [sB_cN]; rfl]
  rw [show sgI b wd = if sB (cN b wd) wd then (cN b wd : Int) - ((2 ^ (8 * hN wd) : Nat) : Int) else cN b wd by rw [sB_cN]; rfl]
  clear e
  generalize cN a wd = x at *
  generalize cN b wd = y at *
  generalize b1 c = z at *
  apply bool_eq
  unfold vB sB topI
  rcases w4_cases h1 h2 with rfl | rfl | rfl | rfl
  · rw [hN1] at *; simp only [Nat.reduceMul, Nat.reducePow, Nat.reduceSub, Bool.and_eq_true, beq_iff_eq, bne_iff_ne, ne_eq, decide_eq_decide, decide_eq_true_eq, beq_eq_false_iff_ne] at *; split <;> split <;> omega
  · rw [hN2] at *; simp only [Nat.reduceMul, Nat.reducePow, Nat.reduceSub, Bool.and_eq_true, beq_iff_eq, bne_iff_ne, ne_eq, decide_eq_decide, decide_eq_true_eq, beq_eq_false_iff_ne] at *; split <;> split <;> omega
  · rw [hN3] at *; simp only [Nat.reduceMul, Nat.reducePow, Nat.reduceSub, Bool.and_eq_true, beq_iff_eq, bne_iff_ne, ne_eq, decide_eq_decide, decide_eq_true_eq, beq_eq_false_iff_ne] at *; split <;> split <;> omega
  · rw [hN4] at *; simp only [Nat.reduceMul, Nat.reducePow, Nat.reduceSub, Bool.and_eq_true, beq_iff_eq, bne_iff_ne, ne_eq, decide_eq_decide, decide_eq_true_eq, beq_eq_false_iff_ne] at *; split <;> split <;> omega
theorem addO_top (a b : Nat) (c : Bool) (wd : Int) (h1 : ¬ wd < 1) (h2 : ¬ 4 < wd) : addO a b c wd = decide (2 * topI wd ≤ (cN a wd : Int) + cN b wd + b1 c) := by
  rw [addO_val]; unfold topI
  rw [decide_eq_decide]
  rcases w4_cases h1 h2 with rfl | rfl | rfl | rfl
  · rw [hN1] at *; simp only [Nat.reduceMul, Nat.reducePow, Nat.reduceSub] at *; omega
  · rw [hN2] at *; simp only [Nat.reduceMul, Nat.reducePow, Nat.reduceSub] at *; omega
  · rw [hN3] at *; simp only [Nat.reduceMul, Nat.reducePow, Nat.reduceSub] at *; omega
  · rw [hN4] at *; simp only [Nat.reduceMul, Nat.reducePow, Nat.reduceSub] at *; omega
theorem subO_top (a b : Nat) (c : Bool) (wd : Int) : subO a b c wd = decide ((cN a wd : Int) - cN b wd - b1 c < 0) := by
  rw [subO_val, decide_eq_decide]; omega
theorem top_bd (wd : Int) (h1 : ¬ wd < 1) (h2 : ¬ 4 < wd) : 128 ≤ topI wd ∧ topI wd ≤ 2147483648 := by
  rcases w4_cases h1 h2 with rfl | rfl | rfl | rfl <;> decide +kernel
theorem cN_bd (a : Nat) (wd : Int) (h1 : ¬ wd < 1) (h2 : ¬ 4 < wd) : cN a wd ≤ 4294967295 := by
  have hc := cN_lt a wd
  rcases w4_cases h1 h2 with rfl | rfl | rfl | rfl
  · rw [hN1] at *; simp only [Nat.reduceMul, Nat.reducePow] at *; omega
  · rw [hN2] at *; simp only [Nat.reduceMul, Nat.reducePow] at *; omega
  · rw [hN3] at *; simp only [Nat.reduceMul, Nat.reducePow] at *; omega
  · rw [hN4] at *; simp only [Nat.reduceMul, Nat.reducePow] at *; omega
theorem three_of {p q : Prop} {b : Bool} [Decidable p] [Decidable q] [Decidable (p ∨ q)] (h : b = decide (p ∨ q)) : (p ∧ b = true) ∨ (decide p = false ∧ q ∧ b = true) ∨ (decide p = false ∧ decide q = false ∧ b = false) := by
  by_cases hp : p <;> by_cases hq : q <;> simp_all
theorem two_of {p : Prop} {b : Bool} [Decidable p] (h : b = decide p) : (p ∧ b = true) ∨ (decide p = false ∧ b = false) := by
  by_cases hp : p <;> simp_all
theorem addV_one (a b : Nat) (wd : Int) (h1 : ¬ wd < 1) (h2 : ¬ 4 < wd) : addV a b true wd = decide (topI wd ≤ sgI a wd + sgI b wd + 1 ∨ sgI a wd + sgI b wd + 1 < - topI wd) := addV_val a b true wd h1 h2
theorem subV_one (a b : Nat) (wd : Int) (h1 : ¬ wd < 1) (h2 : ¬ 4 < wd) : subV a b true wd = decide (topI wd ≤ sgI a wd - sgI b wd - 1 ∨ sgI a wd - sgI b wd - 1 < - topI wd) := subV_val a b true wd h1 h2
theorem addO_one (a b : Nat) (wd : Int) (h1 : ¬ wd < 1) (h2 : ¬ 4 < wd) : addO a b true wd = decide (2 * topI wd ≤ (cN a wd : Int) + cN b wd + 1) := addO_top a b true wd h1 h2
theorem subO_one (a b : Nat) (wd : Int) : subO a b true wd = decide ((cN a wd : Int) - cN b wd - 1 < 0) := subO_top a b true wd
theorem addV_none (a b : Nat) (wd : Int) (h1 : ¬ wd < 1) (h2 : ¬ 4 < wd) : addV a b false wd = decide (topI wd ≤ sgI a wd + sgI b wd ∨ sgI a wd + sgI b wd < - topI wd) := by
  have := addV_val a b false wd h1 h2; simpa [b1] using this
theorem subV_none (a b : Nat) (wd : Int) (h1 : ¬ wd < 1) (h2 : ¬ 4 < wd) : subV a b false wd = decide (topI wd ≤ sgI a wd - sgI b wd ∨ sgI a wd - sgI b wd < - topI wd) := by
  have := subV_val a b false wd h1 h2; simpa [b1] using this
theorem addO_none (a b : Nat) (wd : Int) (h1 : ¬ wd < 1) (h2 : ¬ 4 < wd) : addO a b false wd = decide (2 * topI wd ≤ (cN a wd : Int) + cN b wd) := by
  have := addO_top a b false wd h1 h2; simpa [b1] using this
theorem subO_none (a b : Nat) (wd : Int) : subO a b false wd = decide ((cN a wd : Int) - cN b wd < 0) := by
  have := subO_top a b false wd; simpa [b1] using this
end Go.Proofs.YtjnojonbaoecmaaDoor
