/- The contract of math/bits.Mul64. -/
import Derived.Test.YtmfoeolllobidaaDoorAlu
namespace Go.Proofs.YtmfoeolllobidaaDoor
open Go.RowKit
def B32 : Nat := 4294967296
theorem mul_split (x1 x0 y1 y0 : Nat) : (x1 * 4294967296 + x0) * (y1 * 4294967296 + y0) = x1 * y1 * 18446744073709551616 + x1 * y0 * 4294967296 + x0 * y1 * 4294967296 + x0 * y0 := by
  rw [Nat.add_mul, Nat.mul_add, Nat.mul_add]
  have e1 : x1 * 4294967296 * (y1 * 4294967296) = x1 * y1 * 18446744073709551616 := by rw [Nat.mul_mul_mul_comm]
  have e2 : x1 * 4294967296 * y0 = x1 * y0 * 4294967296 := Nat.mul_right_comm _ _ _
  have e3 : x0 * (y1 * 4294967296) = x0 * y1 * 4294967296 := (Nat.mul_assoc _ _ _).symm
  rw [e1, e2, e3]; omega
/-- What the body reckons for the higher word. -/
def hiF (x y : Int) : Int :=
  IntKind.u64.wrap (IntKind.u64.wrap (IntKind.u64.wrap (x / 4294967296 * (y / 4294967296)) + IntKind.u64.wrap (IntKind.u64.wrap (x / 4294967296 * bits BinOp.and IntKind.u64 y 4294967295) + IntKind.u64.wrap (bits BinOp.and IntKind.u64 x 4294967295 * bits BinOp.and IntKind.u64 y 4294967295) / 4294967296) / 4294967296) +
    IntKind.u64.wrap (bits BinOp.and IntKind.u64 (IntKind.u64.wrap (IntKind.u64.wrap (x / 4294967296 * bits BinOp.and IntKind.u64 y 4294967295) + IntKind.u64.wrap (bits BinOp.and IntKind.u64 x 4294967295 * bits BinOp.and IntKind.u64 y 4294967295) / 4294967296)) 4294967295 + IntKind.u64.wrap (bits BinOp.and IntKind.u64 x 4294967295 * (y / 4294967296))) / 4294967296)
theorem and32 (x : Nat) (hx : U x) : bits BinOp.and IntKind.u64 (x : Int) 4294967295 = ((x % 4294967296 : Nat) : Int) := by
  have := and_mask x hx 32 (by decide)
  simpa using this
theorem wrapU (n : Nat) (h : n < 18446744073709551616) : IntKind.u64.wrap (n : Int) = n := by
  rw [IntKind.wrap_u64]; exact Int.emod_eq_of_lt (by omega) (by omega)
theorem prod_le (a b : Nat) (ha : a ≤ 4294967295) (hb : b ≤ 4294967295) : a * b ≤ 18446744065119617025 := Nat.mul_le_mul ha hb
theorem hi_val (x y : Nat) (hx : U x) (hy : U y) : hiF x y = ((x * y / 18446744073709551616 : Nat) : Int) := by
  unfold hiF
  rw [and32 x hx, and32 y hy]
  have ex : ((x : Int) / 4294967296) = ((x / 4294967296 : Nat) : Int) := by rw [Int.natCast_ediv]; rfl
  have ey : ((y : Int) / 4294967296) = ((y / 4294967296 : Nat) : Int) := by rw [Int.natCast_ediv]; rfl
  rw [ex, ey]
  have hx' : x = x / 4294967296 * 4294967296 + x % 4294967296 := by omega
  have hy' : y = y / 4294967296 * 4294967296 + y % 4294967296 := by omega
  have hs : x * y = (x / 4294967296 * 4294967296 + x % 4294967296) * (y / 4294967296 * 4294967296 + y % 4294967296) := by rw [← hx', ← hy']
  rw [hs, mul_split]
  have b1 : x / 4294967296 ≤ 4294967295 := by unfold U at hx; omega
  have b2 : y / 4294967296 ≤ 4294967295 := by unfold U at hy; omega
  have b3 : x % 4294967296 ≤ 4294967295 := by omega
  have b4 : y % 4294967296 ≤ 4294967295 := by omega
  generalize x / 4294967296 = x1 at *
  generalize y / 4294967296 = y1 at *
  generalize x % 4294967296 = x0 at *
  generalize y % 4294967296 = y0 at *
  clear hs hx' hy' ex ey hx hy
  have p11 := prod_le x1 y1 b1 b2
  have p10 := prod_le x1 y0 b1 b4
  have p01 := prod_le x0 y1 b3 b2
  have p00 := prod_le x0 y0 b3 b4
  rw [← Int.natCast_mul, ← Int.natCast_mul, ← Int.natCast_mul, ← Int.natCast_mul]
  generalize x1 * y1 = q11 at *
  generalize x1 * y0 = q10 at *
  generalize x0 * y1 = q01 at *
  generalize x0 * y0 = q00 at *
  rw [wrapU q11 (by omega), wrapU q10 (by omega), wrapU q01 (by omega), wrapU q00 (by omega)]
  have e1 : ((q10 : Int) + (q00 : Int) / 4294967296) = ((q10 + q00 / 4294967296 : Nat) : Int) := by omega
  rw [e1, wrapU (q10 + q00 / 4294967296) (by omega), and32 (q10 + q00 / 4294967296) (by unfold U; omega)]
  have e2 : (((q10 + q00 / 4294967296) % 4294967296 : Nat) : Int) + (q01 : Int) = (((q10 + q00 / 4294967296) % 4294967296 + q01 : Nat) : Int) := by omega
  have e3 : ((q11 : Int) + ((q10 + q00 / 4294967296 : Nat) : Int) / 4294967296) = ((q11 + (q10 + q00 / 4294967296) / 4294967296 : Nat) : Int) := by omega
  rw [e2, wrapU ((q10 + q00 / 4294967296) % 4294967296 + q01) (by omega), e3, wrapU (q11 + (q10 + q00 / 4294967296) / 4294967296) (by omega)]
  have e4 : (((q11 + (q10 + q00 / 4294967296) / 4294967296 : Nat) : Int) + (((q10 + q00 / 4294967296) % 4294967296 + q01 : Nat) : Int) / 4294967296) = ((q11 + (q10 + q00 / 4294967296) / 4294967296 + ((q10 + q00 / 4294967296) % 4294967296 + q01) / 4294967296 : Nat) : Int) := by omega
  rw [e4, wrapU _ (by omega)]
  congr 1
  omega
set_option maxHeartbeats 1000000 in
theorem mul64_any (x y : Nat) (hx : U x) (hy : U y) (w : World) :
    Calls Tryd.prog 47 #[.int .u64 x, .int .u64 y] w fun e w' => e = .returned (.tuple #[.int .u64 ((x * y / 18446744073709551616 : Nat) : Int), .int .u64 ((x * y % 18446744073709551616 : Nat) : Int)]) ∧ w = w' := by
  have HH := Lib.hid (hi_val x y hx hy)
  have HL : Hid (IntKind.u64.wrap ((x : Int) * y) = ((x * y % 18446744073709551616 : Nat) : Int)) := Lib.hid (by rw [IntKind.wrap_u64, ← Int.natCast_mul]; rfl)
  clear hx hy
  go_enter Tryd.func47, Tryd.ntmps47
  go_wp2
  go_ret2
  refine ⟨?_, rfl⟩
  rw [← HH.out, ← HL.out]
  rfl
end Go.Proofs.YtmfoeolllobidaaDoor
