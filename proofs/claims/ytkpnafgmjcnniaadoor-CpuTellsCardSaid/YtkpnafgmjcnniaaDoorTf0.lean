/- operand.Take, one contract. -/
import Derived.Test.YtkpnafgmjcnniaaDoorTk
import Derived.IntWalk

namespace Go.Proofs.YtkpnafgmjcnniaaDoor
open Go.RowKit
set_option linter.unusedVariables false
set_option linter.unusedSimpArgs false
/-- An operand. -/
structure Opd where
  k : Int
  r : Int
  b : Int
  i : Int
  s : Int
  d : Int
  p : Bool
  m : Int
def Opd.v (o : Opd) : Value := ov o.k o.r o.b o.i o.s o.d o.p o.m
def regO (r : Int) : Opd := ⟨1, r, -1, -1, 0, 0, false, 0⟩
def memO (b i s d : Int) (p : Bool) : Opd := ⟨2, 0, b, i, s, d, p, 0⟩
def zeroO : Opd := ⟨0, 0, 0, 0, 0, 0, false, 0⟩
def gN (R j : Nat) : Int := if R / 2 ^ j % 2 = 1 then 8 else 0
def wdM (M : Nat) : Nat := if M = 0 then 0 else if M = 1 then 1 else 4
/-- What Take answers: the register, the operand, how many bytes. -/
def tkF (n : Nat) (z : Nat → Nat) (R : Nat) : Option (Int × Opd × Nat) :=
  if n = 0 then none
  else if z 0 / 64 = 3 then some ((z 0 / 8 % 8 : Nat) + gN R 2, regO ((z 0 % 8 : Nat) + gN R 0), 1)
  else if z 0 % 8 = 4 then
    if n < 2 then none
    else
      let wd := if z 1 % 8 = 5 ∧ z 0 / 64 = 0 then 4 else wdM (z 0 / 64)
      if n < 2 + wd then none
      else some ((z 0 / 8 % 8 : Nat) + gN R 2, memO (seB (z 1 % 8 : Nat) (gN R 0) (-1) (z 0 / 64 : Nat)) (seI (z 1 / 8 % 8 : Nat) (gN R 1) (-1)) (seS (z 1 / 8 % 8 : Nat) (gN R 1) 1 (z 1 / 64 : Nat)) (dI z 2 wd) false, 2 + wd)
  else if z 0 % 8 = 5 ∧ z 0 / 64 = 0 then
    if n < 5 then none else some ((z 0 / 8 % 8 : Nat) + gN R 2, memO (-1) (-1) 1 (dI z 1 4) true, 5)
  else if n < 1 + wdM (z 0 / 64) then none
  else some ((z 0 / 8 % 8 : Nat) + gN R 2, memO ((z 0 % 8 : Nat) + gN R 0) (-1) 1 (dI z 1 (wdM (z 0 / 64))) false, 1 + wdM (z 0 / 64))
def tkV : Option (Int × Opd × Nat) → Value
  | none => .tuple #[.int .i64 0, zeroO.v, .int .i64 0, .int .i64 80]
  | some (r, o, k) => .tuple #[.int .i64 r, o.v, .int .i64 k, .int .i64 0]
theorem gN_bd (R j : Nat) : 0 ≤ gN R j ∧ gN R j ≤ 8 := by unfold gN; split <;> omega
theorem hi_fin : ∀ n : Fin 256, hiI n.val 1 = gN n.val 0 ∧ hiI n.val 2 = gN n.val 1 ∧ hiI n.val 4 = gN n.val 2 := by decide +kernel
theorem high1 (R : Nat) (h : R < 256) (W : World) : Calls Tryd.prog 43 #[.int .u8 R, .int .u8 1] W fun e w' => e = .returned (.int .i64 (gN R 0)) ∧ W = w' := by
  have := high_any R 1 W
  rwa [(hi_fin ⟨R, h⟩).1] at this
theorem high2 (R : Nat) (h : R < 256) (W : World) : Calls Tryd.prog 43 #[.int .u8 R, .int .u8 2] W fun e w' => e = .returned (.int .i64 (gN R 1)) ∧ W = w' := by
  have := high_any R 2 W
  rwa [(hi_fin ⟨R, h⟩).2.1] at this
theorem high4 (R : Nat) (h : R < 256) (W : World) : Calls Tryd.prog 43 #[.int .u8 R, .int .u8 4] W fun e w' => e = .returned (.int .i64 (gN R 2)) ∧ W = w' := by
  have := high_any R 4 W
  rwa [(hi_fin ⟨R, h⟩).2.2] at this
theorem by_fin : ∀ n : Fin 256, IntKind.u8.wrap (wrap64 ((eN n.val 1 : Nat) : Int)) = (n.val : Int) ∧ bits .and .u8 (n.val : Int) 7 = ((n.val % 8 : Nat) : Int) ∧ bits .and .u8 ((n.val : Int) / 8) 7 = ((n.val / 8 % 8 : Nat) : Int) := by decide +kernel
theorem dI_one (z : Nat → Nat) (hz : ∀ j, z j < 256) (k : Nat) : IntKind.u8.wrap (dI z k 1) = (z k : Int) := by
  have e : numN (fun j => z (k + j)) 1 = z k := by simp [numN]
  unfold dI
  rw [e]
  exact (by_fin ⟨z k, hz k⟩).1
theorem second_any (R : Nat) (hR : R < 256) (x : Nat) (hx : x < 256) (M : Nat) (W : World) :
    Calls Tryd.prog 44 #[ov 2 0 (-1) (-1) 1 0 false 0, .int .u8 x, .int .u8 R, .int .i64 (wdM M : Nat), .int .u8 M] W fun e w' => e = .returned (.tuple #[ov 2 0 (seB (x % 8 : Nat) (gN R 0) (-1) (M : Nat)) (seI (x / 8 % 8 : Nat) (gN R 1) (-1)) (seS (x / 8 % 8 : Nat) (gN R 1) 1 (x / 64 : Nat)) 0 false 0, .int .i64 ((if x % 8 = 5 ∧ M = 0 then 4 else wdM M : Nat) : Int)]) ∧ Below W.heap.size W w' := by
  have h0 := gN_bd R 0
  have h1 := gN_bd R 1
  have hb := by_fin ⟨x, hx⟩
  have := second_core 2 0 (-1) (-1) 1 0 false 0 x R (wdM M : Nat) (M : Nat) (x % 8 : Nat) (x / 8 % 8 : Nat) (x / 64 : Nat) (gN R 0) (gN R 1) W (by omega) (by omega) (by omega) (by omega) h0.1 h0.2 h1.1 h1.2 hb.2.1 hb.2.2 (by simp) (by omega) (high1 R hR) (high2 R hR)
  have e : seW (x % 8 : Nat) (wdM M : Nat) (M : Nat) = ((if x % 8 = 5 ∧ M = 0 then 4 else wdM M : Nat) : Int) := by
    unfold seW
    by_cases h : x % 8 = 5 ∧ M = 0
    · rw [if_pos h, if_pos (by omega)]; rfl
    · rw [if_neg h, if_neg (by omega)]
  rw [e] at this
  exact this
end Go.Proofs.YtkpnafgmjcnniaaDoor
