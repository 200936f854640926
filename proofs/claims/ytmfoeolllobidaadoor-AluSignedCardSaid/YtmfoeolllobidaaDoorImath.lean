/- Plain numbers: products with signs. -/
import Derived.Test.YtmfoeolllobidaaDoorImul
import Derived.Test.YtmfoeolllobidaaDoorCompMath
namespace Go.Proofs.YtmfoeolllobidaaDoor
open Go.RowKit
theorem eN_cut (a : Nat) (wd : Int) : cN (eN a wd) wd = cN a wd := by
  unfold eN
  split
  · unfold cN
    have hb := hN_bd wd
    rw [Nat.or_mod_two_pow, Nat.xor_mod_two_pow]
    have e1 : 18446744073709551615 % 2 ^ (8 * hN wd) = 2 ^ (8 * hN wd) - 1 := by
      rcases hN_cases wd with h | h | h | h | h | h | h | h <;> rw [h]
    have e2 : (2 ^ (8 * hN wd) - 1) % 2 ^ (8 * hN wd) = 2 ^ (8 * hN wd) - 1 := Nat.mod_eq_of_lt (by have := Nat.two_pow_pos (8 * hN wd); omega)
    rw [e1, e2, Nat.xor_self, Nat.or_zero]
  · exact cN_cN a wd
/-- What Imul answers. -/
def iP (a b : Nat) (wd : Int) : Nat := eN a wd * eN b wd
def iLo (a b : Nat) (wd : Int) : Nat := iP a b wd % 18446744073709551616
def iHi (a b : Nat) (wd : Int) : Nat := iP a b wd / 18446744073709551616
def iR (a b : Nat) (wd : Int) : Nat := cN (iLo a b wd) wd
def iX (a b : Nat) (wd : Int) : Int := if sB (eN b wd) 8 then IntKind.u64.wrap ((if sB (eN a wd) 8 then IntKind.u64.wrap (iHi a b wd - eN b wd) else iHi a b wd) - eN a wd) else (if sB (eN a wd) 8 then IntKind.u64.wrap (iHi a b wd - eN b wd) else iHi a b wd)
def iC (a b : Nat) (wd : Int) : Bool := (((eN (iLo a b wd) wd : Nat) : Int) != ((iLo a b wd : Nat) : Int) || (if sB (eN (iLo a b wd) wd) 8 then (18446744073709551615 : Int) else 0) != iX a b wd)
theorem iLo_U (a b : Nat) (wd : Int) : U (iLo a b wd) := Nat.mod_lt _ (by decide)
theorem aimul_any (a b : Nat) (ha : U a) (hb : U b) (wd : Int) (w : World) (hm : Mk w) :
    Calls Tryd.prog 22 #[.int .i64 wd, .int .u64 a, .int .u64 b] w fun e w' => e = .returned (.tuple #[.int .u64 (iR a b wd : Nat), fl (iC a b wd) (zB (iR a b wd) wd) (sB (iR a b wd) wd) (iC a b wd) (pB (iR a b wd))]) ∧ Below w.heap.size w w' :=
  imul_core a b wd (eN a wd) (eN b wd) (iHi a b wd) (iLo a b wd) (eN (iLo a b wd) wd) (iR a b wd) (sB (eN a wd) 8) (sB (eN b wd) 8) (sB (eN (iLo a b wd) wd) 8) _ _ _
    (fun V hV => ext_any a ha wd V hV) (fun V hV => ext_any b hb wd V hV) (fun V hV => ext_any _ (iLo_U a b wd) wd V hV)
    (fun V => mul64_any _ _ (eN_U a ha wd) (eN_U b hb wd) V)
    (fun V => sign_any _ (eN_U a ha wd) 8 V) (fun V => sign_any _ (eN_U b hb wd) 8 V) (fun V => sign_any _ (eN_U _ (iLo_U a b wd) wd) 8 V)
    (fun V hV => cut_any _ (iLo_U a b wd) wd V hV) (iX a b wd) rfl (iC a b wd) rfl
    (fun V hV => told_any _ (cN_U _ (iLo_U a b wd) wd) wd _ _ V hV) w hm
theorem iR_val (a b : Nat) (wd : Int) : iR a b wd = cN a wd * cN b wd % 2 ^ (8 * hN wd) := by
  have hb := hN_bd wd
  have e : iR a b wd = iP a b wd % 2 ^ (8 * hN wd) := by
    unfold iR iLo cN
    rw [show (18446744073709551616 : Nat) = 2 ^ (8 * hN wd) * 2 ^ (64 - 8 * hN wd) by rw [← Nat.pow_add, show 8 * hN wd + (64 - 8 * hN wd) = 64 by omega], Nat.mod_mul_right_mod]
  rw [e]
  unfold iP
  rw [Nat.mul_mod]
  have h1 := eN_cut a wd
  have h2 := eN_cut b wd
  unfold cN at h1 h2 ⊢
  rw [h1, h2]
theorem iR_low (a b : Nat) (wd : Int) : iR a b wd = lowM a b wd := iR_val a b wd
theorem neg_emod (z M : Int) : (-(z % M)) % M = (-z) % M := by
  have h := Int.mul_ediv_add_emod z M
  have e : -(z % M) = -z + M * (z / M) := by omega
  rw [e, Int.add_mul_emod_self_left]
theorem neg_prod (M x y : Nat) (hM : 0 < M) (hx : x < M) : ((M * 2 - x) % M * y) % M = (M * 2 - x * y % M) % M := by
  have hxy : x * y % M < M := Nat.mod_lt _ hM
  apply Int.ofNat.inj
  show (((M * 2 - x) % M * y % M : Nat) : Int) = (((M * 2 - x * y % M) % M : Nat) : Int)
  rw [Int.natCast_emod, Int.natCast_mul, Int.natCast_emod, Int.natCast_emod, Int.natCast_sub (by omega), Int.natCast_sub (by omega), Int.natCast_emod, Int.natCast_mul, Int.natCast_mul]
  have e1 : ((M : Int) * (2 : Nat) - (x : Int)) % M = (-(x : Int)) % M := by
    rw [show ((M : Int) * (2 : Nat) - (x : Int)) = (-(x : Int)) + (M : Int) * 2 by omega, Int.add_mul_emod_self_left]
  have e2 : ((M : Int) * (2 : Nat) - (x : Int) * y % M) % M = (-((x : Int) * y)) % M := by
    rw [show ((M : Int) * (2 : Nat) - (x : Int) * y % M) = (-((x : Int) * y % M)) + (M : Int) * 2 by omega, Int.add_mul_emod_self_left, neg_emod]
  rw [e1, e2, Int.mul_emod, Int.emod_emod, ← Int.mul_emod, Int.neg_mul]
theorem back_prod (a b : Nat) (wd : Int) : iR (subR 0 a false wd) b wd = subR 0 (iR a b wd) false wd := by
  have e0 : cN 0 wd = 0 := Nat.zero_mod _
  have h1 : cN (subR 0 a false wd) wd = subR 0 a false wd := by unfold subR; rw [cN_cN]
  have h2 : cN (iR a b wd) wd = iR a b wd := cN_cN _ _
  rw [iR_val (subR 0 a false wd), h1, subR_val, subR_val, h2, e0, iR_val a b wd]
  simp only [b1, Bool.false_eq_true, if_false, Nat.sub_zero, Nat.zero_add]
  exact neg_prod _ _ _ (Nat.two_pow_pos _) (cN_lt a wd)
end Go.Proofs.YtmfoeolllobidaaDoor
