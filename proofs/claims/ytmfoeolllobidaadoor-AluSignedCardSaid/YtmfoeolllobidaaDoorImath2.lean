/- Plain numbers: products with signs, of words of at most four bytes. -/
import Derived.Test.YtmfoeolllobidaaDoorImath
namespace Go.Proofs.YtmfoeolllobidaaDoor
open Go.RowKit
theorem hN8 : hN 8 = 8 := by decide
theorem ext_cases (a : Nat) (ha : U a) (wd : Int) (h1 : ¬ wd < 1) (h2 : ¬ 4 < wd) :
    (0 ≤ sgI a wd ∧ sgI a wd ≤ 2147483647 ∧ ((eN a wd : Nat) : Int) = sgI a wd ∧ sB (eN a wd) 8 = false) ∨ (sgI a wd < 0 ∧ -2147483648 ≤ sgI a wd ∧ ((eN a wd : Nat) : Int) = sgI a wd + 18446744073709551616 ∧ sB (eN a wd) 8 = true) := by
  have e := ext_sg a ha wd
  have hU := eN_U a ha wd
  have hb := sg_bd a wd h1 h2
  unfold sB
  rw [hN8]
  simp only [Nat.reduceMul, Nat.reduceSub, Nat.reducePow]
  generalize eN a wd = A at *
  generalize sgI a wd = x at *
  unfold wrap64 at e
  unfold U at hU
  by_cases hx : 0 ≤ x
  · left
    have : A / 9223372036854775808 % 2 ≠ 1 := by omega
    refine ⟨hx, hb.2, by omega, by simp [this]⟩
  · right
    have : A / 9223372036854775808 % 2 = 1 := by omega
    refine ⟨by omega, hb.1, by omega, by simp [this]⟩
/-- The product of two words with their signs. -/
def zI (a b : Nat) (wd : Int) : Int := sgI a wd * sgI b wd
theorem zI_bd (a b : Nat) (wd : Int) (h1 : ¬ wd < 1) (h2 : ¬ 4 < wd) : -4611686018427387904 ≤ zI a b wd ∧ zI a b wd ≤ 4611686018427387904 := by
  have hx := sg_bd a wd h1 h2
  have hy := sg_bd b wd h1 h2
  unfold zI
  have h : (sgI a wd * sgI b wd).natAbs ≤ 2147483648 * 2147483648 := by
    rw [Int.natAbs_mul]; exact Nat.mul_le_mul (by omega) (by omega)
  omega
theorem lo_hi (a b : Nat) (ha : U a) (hb : U b) (wd : Int) (h1 : ¬ wd < 1) (h2 : ¬ 4 < wd) :
    (0 ≤ zI a b wd ∧ ((iLo a b wd : Nat) : Int) = zI a b wd ∧ iX a b wd = 0) ∨ (zI a b wd < 0 ∧ ((iLo a b wd : Nat) : Int) = zI a b wd + 18446744073709551616 ∧ iX a b wd = 18446744073709551615) := by
  have hz := zI_bd a b wd h1 h2
  have eP : ((iP a b wd : Nat) : Int) = ((eN a wd : Nat) : Int) * ((eN b wd : Nat) : Int) := by unfold iP; rw [Int.natCast_mul]
  have eL : iLo a b wd = iP a b wd % 18446744073709551616 := rfl
  have eH : iHi a b wd = iP a b wd / 18446744073709551616 := rfl
  have ez : zI a b wd = sgI a wd * sgI b wd := rfl
  unfold iX
  simp only [IntKind.wrap_u64]
  rcases ext_cases a ha wd h1 h2 with ⟨xa, xb, xc, xd⟩ | ⟨xa, xb, xc, xd⟩ <;> rcases ext_cases b hb wd h1 h2 with ⟨ya, yb, yc, yd⟩ | ⟨ya, yb, yc, yd⟩
  all_goals
    rw [xd, yd]
    rw [xc, yc] at eP
    rw [xc, yc]
    generalize iP a b wd = p at *
    generalize iLo a b wd = l at *
    generalize iHi a b wd = h at *
    generalize zI a b wd = z at *
    simp only [if_true, if_false, Bool.false_eq_true]
    generalize sgI a wd = x at *
    generalize sgI b wd = y at *
  · rw [← ez] at eP; omega
  · rw [Int.mul_add, ← ez] at eP; omega
  · rw [Int.add_mul, ← ez] at eP; omega
  · rw [Int.add_mul, Int.mul_add, Int.mul_add, ← ez] at eP; omega
theorem iC_val (a b : Nat) (ha : U a) (hb : U b) (wd : Int) (h1 : ¬ wd < 1) (h2 : ¬ 4 < wd) : iC a b wd = !decide (sgI (iLo a b wd) wd = zI a b wd) := by
  have hz := zI_bd a b wd h1 h2
  have hl := lo_hi a b ha hb wd h1 h2
  have hw := ext_cases (iLo a b wd) (iLo_U a b wd) wd h1 h2
  unfold iC
  rw [Bool.eq_iff_iff]
  simp only [Bool.or_eq_true, bne_iff_ne, ne_eq, Bool.not_eq_true', decide_eq_false_iff_not]
  generalize zI a b wd = z at *
  generalize sgI (iLo a b wd) wd = q at *
  rcases hw with ⟨qa, qb, qc, qd⟩ | ⟨qa, qb, qc, qd⟩ <;> rw [qd, qc] <;> simp only [if_true, if_false, Bool.false_eq_true] <;> omega
theorem sgI_same (a b : Nat) (wd : Int) (h : cN a wd = cN b wd) : sgI a wd = sgI b wd := by rw [sgI_cN, sgI_cN b, h]
theorem fits_val (a b : Nat) (ha : U a) (hb : U b) (wd : Int) (h1 : ¬ wd < 1) (h2 : ¬ 4 < wd) :
    (wrap64 ((eN (iR a b wd) wd : Nat) : Int) == wrap64 (wrap64 ((eN a wd : Nat) : Int) * wrap64 ((eN b wd : Nat) : Int))) = !iC a b wd := by
  have hz := zI_bd a b wd h1 h2
  have hrU : U (iR a b wd) := cN_U _ (iLo_U a b wd) wd
  rw [ext_sg a ha, ext_sg b hb, ext_sg _ hrU, iC_val a b ha hb wd h1 h2, sgI_same (iR a b wd) (iLo a b wd) wd (cN_cN _ _)]
  have e : wrap64 (sgI a wd * sgI b wd) = zI a b wd := by
    change wrap64 (zI a b wd) = _
    unfold wrap64; omega
  rw [e, Bool.not_not, Bool.eq_iff_iff]
  simp
theorem whole_val (a b : Nat) (wd : Int) (h1 : ¬ wd < 1) (h2 : ¬ 4 < wd) : bits BinOp.or IntKind.u64 ((iR a b wd : Nat) : Int) (IntKind.u64.wrap (((highM a b wd : Nat) : Int) * 2 ^ (8 * wd).toNat)) = IntKind.u64.wrap (((cN a wd : Nat) : Int) * ((cN b wd : Nat) : Int)) := by
  have e1 : (8 * wd).toNat = 8 * hN wd := by
    rcases w4_cases h1 h2 with rfl | rfl | rfl | rfl <;> decide
  have hp : pM a b wd < 18446744073709551616 := by
    have := prod_le _ _ (cN_bd a wd h1 h2) (cN_bd b wd h1 h2)
    have e : pM a b wd = cN a wd * cN b wd := rfl
    omega
  have hle : highM a b wd * 2 ^ (8 * hN wd) ≤ pM a b wd := Nat.div_mul_le_self _ _
  have hlo : lowM a b wd < 2 ^ (8 * hN wd) := Nat.mod_lt _ (Nat.two_pow_pos _)
  have hlo2 := lowM_U a b wd
  rw [e1, iR_low, ← Int.natCast_mul]
  have e2 : IntKind.u64.wrap (((highM a b wd : Nat) : Int) * 2 ^ (8 * hN wd)) = ((highM a b wd * 2 ^ (8 * hN wd) : Nat) : Int) := by
    rw [show (((highM a b wd : Nat) : Int) * 2 ^ (8 * hN wd)) = ((highM a b wd * 2 ^ (8 * hN wd) : Nat) : Int) by simp]
    exact wrapU _ (by omega)
  rw [e2, u64_or_nat _ _ hlo2 (by omega), Nat.or_comm, nat_join (8 * hN wd) _ _ (Nat.mul_mod_left _ _) hlo]
  change _ = IntKind.u64.wrap ((pM a b wd : Nat) : Int)
  rw [wrapU _ hp]
  congr 1
  exact Nat.div_add_mod' _ _
end Go.Proofs.YtmfoeolllobidaaDoor
