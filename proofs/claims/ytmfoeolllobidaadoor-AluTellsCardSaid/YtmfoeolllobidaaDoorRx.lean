/- Plain numbers: products with signs, of words of any width. -/
import Derived.Test.YtmfoeolllobidaaDoorImath2
import Derived.Test.YtmfoeolllobidaaDoorRm
namespace Go.Proofs.YtmfoeolllobidaaDoor
open Go.RowKit
theorem ext_cases8 (a : Nat) (ha : U a) (wd : Int) :
    (0 ≤ sgI a wd ∧ sgI a wd ≤ 9223372036854775807 ∧ ((eN a wd : Nat) : Int) = sgI a wd ∧ sB (eN a wd) 8 = false) ∨ (sgI a wd < 0 ∧ -9223372036854775808 ≤ sgI a wd ∧ ((eN a wd : Nat) : Int) = sgI a wd + 18446744073709551616 ∧ sB (eN a wd) 8 = true) := by
  have e := ext_sg a ha wd
  have hU := eN_U a ha wd
  unfold sB
  rw [hN8]
  simp only [Nat.reduceMul, Nat.reduceSub, Nat.reducePow]
  generalize eN a wd = A at *
  generalize sgI a wd = x at *
  unfold wrap64 at e
  unfold U at hU
  by_cases hx : 0 ≤ x
  · left
    have : A / 9223372036854775808 % 2 ≠ 1 := by omega
    refine ⟨hx, by omega, by omega, by simp [this]⟩
  · right
    have : A / 9223372036854775808 % 2 = 1 := by omega
    refine ⟨by omega, by omega, by omega, by simp [this]⟩
theorem zI_bd8 (a b : Nat) (ha : U a) (hb : U b) (wd : Int) : -85070591730234615865843651857942052864 ≤ zI a b wd ∧ zI a b wd ≤ 85070591730234615865843651857942052864 := by
  have hx : (sgI a wd).natAbs ≤ 9223372036854775808 := by rcases ext_cases8 a ha wd with ⟨x, y, _⟩ | ⟨x, y, _⟩ <;> omega
  have hy : (sgI b wd).natAbs ≤ 9223372036854775808 := by rcases ext_cases8 b hb wd with ⟨x, y, _⟩ | ⟨x, y, _⟩ <;> omega
  unfold zI
  have h : (sgI a wd * sgI b wd).natAbs ≤ 9223372036854775808 * 9223372036854775808 := by
    rw [Int.natAbs_mul]; exact Nat.mul_le_mul hx hy
  omega
theorem lo_hi8 (a b : Nat) (ha : U a) (hb : U b) (wd : Int) :
    ((iLo a b wd : Nat) : Int) = zI a b wd % 18446744073709551616 ∧ iX a b wd = zI a b wd / 18446744073709551616 % 18446744073709551616 := by
  have hz := zI_bd8 a b ha hb wd
  have eP : ((iP a b wd : Nat) : Int) = ((eN a wd : Nat) : Int) * ((eN b wd : Nat) : Int) := by unfold iP; rw [Int.natCast_mul]
  have eL : iLo a b wd = iP a b wd % 18446744073709551616 := rfl
  have eH : iHi a b wd = iP a b wd / 18446744073709551616 := rfl
  have ez : zI a b wd = sgI a wd * sgI b wd := rfl
  unfold iX
  simp only [IntKind.wrap_u64]
  rcases ext_cases8 a ha wd with ⟨xa, xb, xc, xd⟩ | ⟨xa, xb, xc, xd⟩ <;> rcases ext_cases8 b hb wd with ⟨ya, yb, yc, yd⟩ | ⟨ya, yb, yc, yd⟩
  all_goals
    rw [xd, yd]
    rw [xc, yc] at eP
    rw [xc, yc]
    generalize iP a b wd = p at *
    generalize iLo a b wd = l at *
    generalize iHi a b wd = h at *
    generalize zI a b wd = z at *
    simp only [if_true, if_false, Bool.false_eq_true]
    generalize sgI a wd = x at *
    generalize sgI b wd = y at *
  · rw [← ez] at eP; omega
  · rw [Int.mul_add, ← ez] at eP; omega
  · rw [Int.add_mul, ← ez] at eP; omega
  · rw [Int.add_mul, Int.mul_add, Int.mul_add, ← ez] at eP; omega
theorem iC_val8 (a b : Nat) (ha : U a) (hb : U b) (wd : Int) : iC a b wd = !decide (sgI (iLo a b wd) wd = zI a b wd) := by
  have hz := zI_bd8 a b ha hb wd
  have hl := lo_hi8 a b ha hb wd
  have hw := ext_cases8 (iLo a b wd) (iLo_U a b wd) wd
  unfold iC
  rw [Bool.eq_iff_iff]
  simp only [Bool.or_eq_true, bne_iff_ne, ne_eq, Bool.not_eq_true', decide_eq_false_iff_not]
  generalize zI a b wd = z at *
  generalize sgI (iLo a b wd) wd = q at *
  generalize iX a b wd = X at *
  obtain ⟨l1, l2⟩ := hl
  rcases hw with ⟨qa, qb, qc, qd⟩ | ⟨qa, qb, qc, qd⟩ <;> rw [qd, qc] <;> simp only [if_true, if_false, Bool.false_eq_true] <;> omega
end Go.Proofs.YtmfoeolllobidaaDoor
