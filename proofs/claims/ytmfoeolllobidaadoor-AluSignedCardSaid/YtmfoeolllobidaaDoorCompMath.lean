/- Plain numbers: words compared. -/
import Derived.Test.YtmfoeolllobidaaDoorRefs4
import Derived.Test.YtmfoeolllobidaaDoorAlu
namespace Go.Proofs.YtmfoeolllobidaaDoor
open Go.RowKit
theorem sgI_cN (a : Nat) (wd : Int) : sgI a wd = if sB (cN a wd) wd then (cN a wd : Int) - ((2 ^ (8 * hN wd) : Nat) : Int) else cN a wd := by rw [sB_cN]; rfl
theorem ext_sg (a : Nat) (ha : U a) (wd : Int) : wrap64 ((eN a wd : Nat) : Int) = sgI a wd := by
  have hb := hN_bd wd
  have e := or_high a (8 * hN wd) ha (by omega)
  have hc := cN_lt a wd
  have hs2 : (if sB (cN a wd) wd then True else True) := by split <;> trivial
  rw [sgI_cN]
  unfold eN
  rw [← sB_cN]
  by_cases hs : sB (cN a wd) wd = true
  · rw [if_pos hs, if_pos hs, e]
    change wrap64 (((_ ||| cN a wd) : Nat) : Int) = _
    unfold sB at hs
    generalize cN a wd = r at *
    clear e ha hs2
    rcases hN_cases wd with h | h | h | h | h | h | h | h <;> rw [h] at hc hs ⊢
    · simp only [Nat.reduceMul, Nat.reducePow, Nat.reduceSub, Nat.reduceXor] at *; rw [nat_join 8 _ _ (by decide) (by omega)]; unfold wrap64; omega
    · simp only [Nat.reduceMul, Nat.reducePow, Nat.reduceSub, Nat.reduceXor] at *; rw [nat_join 16 _ _ (by decide) (by omega)]; unfold wrap64; omega
    · simp only [Nat.reduceMul, Nat.reducePow, Nat.reduceSub, Nat.reduceXor] at *; rw [nat_join 24 _ _ (by decide) (by omega)]; unfold wrap64; omega
    · simp only [Nat.reduceMul, Nat.reducePow, Nat.reduceSub, Nat.reduceXor] at *; rw [nat_join 32 _ _ (by decide) (by omega)]; unfold wrap64; omega
    · simp only [Nat.reduceMul, Nat.reducePow, Nat.reduceSub, Nat.reduceXor] at *; rw [nat_join 40 _ _ (by decide) (by omega)]; unfold wrap64; omega
    · simp only [Nat.reduceMul, Nat.reducePow, Nat.reduceSub, Nat.reduceXor] at *; rw [nat_join 48 _ _ (by decide) (by omega)]; unfold wrap64; omega
    · simp only [Nat.reduceMul, Nat.reducePow, Nat.reduceSub, Nat.reduceXor] at *; rw [nat_join 56 _ _ (by decide) (by omega)]; unfold wrap64; omega
    · simp only [Nat.reduceMul, Nat.reducePow, Nat.reduceSub, Nat.reduceXor, Nat.zero_or, decide_eq_true_eq] at *; unfold wrap64; omega
  · rw [if_neg hs, if_neg hs]
    unfold sB at hs
    generalize cN a wd = r at *
    clear e ha hs2
    rcases hN_cases wd with h | h | h | h | h | h | h | h <;> rw [h] at hc hs <;> simp only [Nat.reduceMul, Nat.reducePow, Nat.reduceSub, decide_eq_true_eq] at * <;> unfold wrap64 <;> omega
theorem cmp_C (a b : Nat) (wd : Int) : subO a b false wd = decide (cN a wd < cN b wd) := by
  rw [subO_val]; rfl
theorem cmp_Z (a b : Nat) (wd : Int) : zB (subR a b false wd) wd = decide (cN a wd = cN b wd) := by
  have ha := cN_lt a wd
  have hb := cN_lt b wd
  unfold zB
  have e : cN (subR a b false wd) wd = subR a b false wd := by unfold subR; rw [cN_cN]
  rw [e, subR_val]
  simp only [b1, Bool.false_eq_true, if_false, Nat.sub_zero]
  generalize cN a wd = x at *
  generalize cN b wd = y at *
  rw [Bool.eq_iff_iff]
  simp only [beq_iff_eq, decide_eq_true_eq]
  rcases hN_cases wd with h | h | h | h | h | h | h | h <;> rw [h] at ha hb ⊢ <;> simp only [Nat.reduceMul, Nat.reducePow] at * <;> omega
theorem cmp_less (a b : Nat) (wd : Int) : (sB (subR a b false wd) wd != subV a b false wd) = decide (sgI a wd < sgI b wd) := by
  have ha := cN_lt a wd
  have hb := cN_lt b wd
  have e : subV a b false wd = vB false (sB (cN a wd) wd) (sB (cN b wd) wd) (sB (subR a b false wd) wd) := rfl
  rw [e, subR_val, sgI_cN, sgI_cN]
  simp only [b1, Bool.false_eq_true, if_false, Nat.sub_zero]
  clear e
  generalize cN a wd = x at *
  generalize cN b wd = y at *
  unfold vB sB
  by_cases hx : x / 2 ^ (8 * hN wd - 1) % 2 = 1 <;> by_cases hy : y / 2 ^ (8 * hN wd - 1) % 2 = 1 <;> by_cases hr : (x + 2 ^ (8 * hN wd) * 2 - y) % 2 ^ (8 * hN wd) / 2 ^ (8 * hN wd - 1) % 2 = 1
  all_goals
    simp only [hx, hy, hr, decide_true, decide_false, beq_self_eq_true, Bool.true_beq, Bool.false_beq, Bool.not_true, Bool.not_false, Bool.false_eq_true, Bool.and_true, Bool.and_false, bne, if_true, if_false]
    try (symm; first | rw [decide_eq_true_eq] | rw [decide_eq_false_iff_not])
    rcases hN_cases wd with h | h | h | h | h | h | h | h <;> rw [h] at ha hb hx hy hr <;> (try rw [h]) <;> simp only [Nat.reduceMul, Nat.reducePow, Nat.reduceSub] at * <;> omega
theorem neg_add (a : Nat) (wd : Int) : addR a (subR 0 a false wd) false wd = 0 := by
  have ha := cN_lt a wd
  have e : cN (subR 0 a false wd) wd = subR 0 a false wd := by unfold subR; rw [cN_cN]
  have e0 : cN 0 wd = 0 := Nat.zero_mod _
  rw [addR_val, e, subR_val, e0]
  simp only [b1, Bool.false_eq_true, if_false, Nat.sub_zero]
  generalize cN a wd = x at *
  rcases hN_cases wd with h | h | h | h | h | h | h | h <;> rw [h] at ha ⊢ <;> simp only [Nat.reduceMul, Nat.reducePow] at * <;> omega
theorem neg_C (a : Nat) (wd : Int) : subO 0 a false wd = decide (cN a wd ≠ 0) := by
  have e0 : cN 0 wd = 0 := Nat.zero_mod _
  rw [subO_val, e0, decide_eq_decide]; simp only [b1, Bool.false_eq_true, if_false]; omega
theorem cmp_Z' (a b : Nat) (wd : Int) : zB (subR a b false wd) wd = (((cN a wd : Nat) : Int) == ((cN b wd : Nat) : Int)) := by
  rw [cmp_Z, Bool.eq_iff_iff]; simp only [decide_eq_true_eq, beq_iff_eq]; omega
theorem cmp_less' (a b : Nat) (wd : Int) : (sB (subR a b false wd) wd == subV a b false wd) = !decide (sgI a wd < sgI b wd) := by
  rw [← cmp_less]; simp [bne]
theorem neg_C' (a : Nat) (wd : Int) : subO 0 a false wd = (((cN a wd : Nat) : Int) != 0) := by
  rw [neg_C, Bool.eq_iff_iff]; simp only [decide_eq_true_eq, bne_iff_ne, ne_eq]; omega
end Go.Proofs.YtmfoeolllobidaaDoor
