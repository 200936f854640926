/- CpuAddress: how a sum moves with a register. -/
import Derived.Test.YtkpnafgmjcnniaaDoorAl
namespace Go.Proofs.YtkpnafgmjcnniaaDoor
open Go.RowKit
set_option linter.unusedVariables false
set_option linter.unusedSimpArgs false
theorem mulN_add (a y : Nat) (s : Int) : mulN (uN ((a : Int) + y)) s = (mulN a s + mulN y s) % 18446744073709551616 := by
  have e : uN ((a : Int) + y) = (a + y) % 18446744073709551616 := by unfold uN; omega
  rw [e]
  unfold mulN
  rw [Nat.mul_mod, Nat.mod_mod, ← Nat.mul_mod, Nat.add_mul, Nat.add_mod]
def mo1 (b : Int) (k y : Nat) : Int := if b = k then IntKind.u64.wrap (0 + (y : Int)) else 0
def mo (b i s : Int) (k y : Nat) : Int := if i = k then IntKind.u64.wrap (mo1 b k y + IntKind.u64.wrap ((y : Int) * IntKind.u64.wrap s)) else mo1 b k y
theorem mulN_lt (a : Nat) (s : Int) : mulN a s < 18446744073709551616 := Nat.mod_lt _ (by decide)
set_option maxHeartbeats 4000000 in
theorem more_val (R : Nat → Nat) (p : Bool) (b i s d : Int) (x k y : Nat) (hb : -1 ≤ b) (hb2 : b ≤ 15) (hi : -1 ≤ i) (hi2 : i ≤ 15) (hp : p = true → b = -1 ∧ i = -1) (hk : k < 16) :
    sumA (adL (fun j => if j = k then uN ((R k : Int) + y) else R j) p b i s d x) = IntKind.u64.wrap (sumA (adL R p b i s d x) + mo b i s k y) := by
  have hy : uN ((R k : Int) + y) = (R k + y) % 18446744073709551616 := by unfold uN; omega
  cases p
  · unfold mo mo1
    rw [mul_val]
    by_cases hb1 : b = -1
    · subst hb1
      have hbk : ¬ (-1 : Int) = (k : Int) := by omega
      by_cases hi1 : i = -1
      · subst hi1
        simp only [adL, sumA, hbk, if_false, if_true, Bool.false_eq_true, List.nil_append, List.foldl_cons, List.foldl_nil, IntKind.wrap_u64]
        omega
      · obtain ⟨I, rfl⟩ := Int.eq_ofNat_of_zero_le (show 0 ≤ i by omega)
        have hI : (I : Int).toNat % 16 = I := by omega
        by_cases hik : I = k
        · subst hik
          have hm := mulN_add (R I) y s
          simp only [adL, sumA, hI, hi1, hbk, if_false, if_true, Bool.false_eq_true, List.nil_append, List.cons_append, List.foldl_cons, List.foldl_nil, IntKind.wrap_u64, hm]
          omega
        · have hik' : ¬ (I : Int) = (k : Int) := by omega
          simp only [adL, sumA, hI, hi1, hbk, hik, hik', if_false, if_true, Bool.false_eq_true, List.nil_append, List.cons_append, List.foldl_cons, List.foldl_nil, IntKind.wrap_u64]
          omega
    · obtain ⟨B, rfl⟩ := Int.eq_ofNat_of_zero_le (show 0 ≤ b by omega)
      have hB : (B : Int).toNat % 16 = B := by omega
      by_cases hi1 : i = -1
      · subst hi1
        have hik' : ¬ (-1 : Int) = (k : Int) := by omega
        by_cases hbk : B = k
        · subst hbk
          simp only [adL, sumA, hB, hb1, hik', if_false, if_true, Bool.false_eq_true, List.nil_append, List.cons_append, List.foldl_cons, List.foldl_nil, IntKind.wrap_u64, hy]
          omega
        · have hbk' : ¬ (B : Int) = (k : Int) := by omega
          simp only [adL, sumA, hB, hb1, hbk, hbk', hik', if_false, if_true, Bool.false_eq_true, List.nil_append, List.cons_append, List.foldl_cons, List.foldl_nil, IntKind.wrap_u64]
          omega
      · obtain ⟨I, rfl⟩ := Int.eq_ofNat_of_zero_le (show 0 ≤ i by omega)
        have hI : (I : Int).toNat % 16 = I := by omega
        by_cases hbk : B = k
        · subst hbk
          by_cases hik : I = B
          · subst hik
            have hm := mulN_add (R I) y s
            rw [hy] at hm
            simp only [adL, sumA, hI, hi1, if_false, if_true, Bool.false_eq_true, List.nil_append, List.cons_append, List.foldl_cons, List.foldl_nil, IntKind.wrap_u64, hm, hy]
            omega
          · have hik' : ¬ (I : Int) = (B : Int) := by omega
            simp only [adL, sumA, hI, hB, hi1, hb1, hik, hik', if_false, if_true, Bool.false_eq_true, List.nil_append, List.cons_append, List.foldl_cons, List.foldl_nil, IntKind.wrap_u64, hy]
            omega
        · have hbk' : ¬ (B : Int) = (k : Int) := by omega
          by_cases hik : I = k
          · subst hik
            have hm := mulN_add (R I) y s
            simp only [adL, sumA, hI, hB, hi1, hb1, hbk, hbk', if_false, if_true, Bool.false_eq_true, List.nil_append, List.cons_append, List.foldl_cons, List.foldl_nil, IntKind.wrap_u64, hm]
            omega
          · have hik' : ¬ (I : Int) = (k : Int) := by omega
            simp only [adL, sumA, hI, hB, hi1, hb1, hbk, hbk', hik, hik', if_false, if_true, Bool.false_eq_true, List.nil_append, List.cons_append, List.foldl_cons, List.foldl_nil, IntKind.wrap_u64]
            omega
  · obtain ⟨rfl, rfl⟩ := hp rfl
    have hbk : ¬ (-1 : Int) = (k : Int) := by omega
    simp only [mo, mo1, adL, sumA, hbk, if_false, if_true, List.foldl_cons, List.foldl_nil, IntKind.wrap_u64]
    omega
/-- The next address counts where the operand is relative to it, and nowhere else. -/
theorem later_rip (R : Nat → Nat) (b i s d : Int) (x y : Nat) : sumA (adL R true b i s d (uN ((x : Int) + y))) = IntKind.u64.wrap (sumA (adL R true b i s d x) + y) := by
  have hy : uN ((x : Int) + y) = (x + y) % 18446744073709551616 := by unfold uN; omega
  simp only [adL, sumA, if_true, List.foldl_cons, List.foldl_nil, IntKind.wrap_u64, hy]
  omega
theorem later_same (R : Nat → Nat) (b i s d : Int) (x y : Nat) : adL R false b i s d y = adL R false b i s d x := rfl
theorem only_disp (R : Nat → Nat) (s d : Int) (x : Nat) : sumA (adL R false (-1) (-1) s d x) = IntKind.u64.wrap d := by
  have := uN_U d
  rw [uN_val]
  unfold U at this
  simp only [adL, sumA, if_true, if_false, Bool.false_eq_true, List.nil_append, List.foldl_cons, List.foldl_nil, IntKind.wrap_u64]
  omega
end Go.Proofs.YtkpnafgmjcnniaaDoor
