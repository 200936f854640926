/- The contract of math/bits.Len64, for now: five of its eight ways (those that end with the test of one byte alone are open). -/
import Derived.Test.YtmfoeolllobidaaDoorDivMath
namespace Go.Proofs.YtmfoeolllobidaaDoor
open Go.RowKit
/-- How many bits a byte has. -/
def bl (y : Nat) : Nat := if y = 0 then 0 else Nat.log2 y + 1
theorem bl_fin : ∀ y : Fin 256, y.val < 2 ^ bl y.val ∧ (y.val ≠ 0 → 2 ^ bl y.val ≤ 2 * y.val) ∧ bl y.val ≤ 8 := by decide +kernel
set_option maxRecDepth 100000 in
set_option maxHeartbeats 2000000 in
theorem len64_000 (c : Fin 256) (w : World) :
    Calls Tryd.prog 75 #[.int .u64 (c.val : Int)] w fun e w' => e = .returned (.int .i64 (0 + bl c.val : Nat)) ∧ w = w' := by
  have hx := c.isLt
  have h0 : ¬ ((4294967296 : Int) ≤ (c.val : Int)) := by omega
  have h1 : ¬ ((65536 : Int) ≤ (c.val : Int)) := by omega
  have h2 : ¬ ((256 : Int) ≤ (c.val : Int)) := by omega
  go_enter Tryd.func75, Tryd.ntmps75
  go_wp2
  go_ret
  refine ⟨congrArg Ending.returned (congrArg (Value.int IntKind.i64) ?_), rfl⟩
  clear w
  revert c
  decide +kernel
set_option maxRecDepth 100000 in
set_option maxHeartbeats 2000000 in
theorem len64_010 (x : Nat) (c : Fin 256) (h0 : ¬ ((4294967296 : Int) ≤ (x : Int))) (h1 : ((65536 : Int) ≤ (x : Int))) (e0 : ((x : Int) / 65536) = (c.val : Int)) (w : World) :
    Calls Tryd.prog 75 #[.int .u64 (x : Int)] w fun e w' => e = .returned (.int .i64 (16 + bl c.val : Nat)) ∧ w = w' := by
  have hx := c.isLt
  have h2 : ¬ ((256 : Int) ≤ (c.val : Int)) := by omega
  go_enter Tryd.func75, Tryd.ntmps75
  go_wp2
  go_ret
  refine ⟨congrArg Ending.returned (congrArg (Value.int IntKind.i64) ?_), rfl⟩
  clear h0 h1 e0 w
  revert c
  decide +kernel
set_option maxRecDepth 100000 in
set_option maxHeartbeats 2000000 in
theorem len64_100 (x : Nat) (c : Fin 256) (h0 : ((4294967296 : Int) ≤ (x : Int))) (e0 : ((x : Int) / 4294967296) = (c.val : Int)) (w : World) :
    Calls Tryd.prog 75 #[.int .u64 (x : Int)] w fun e w' => e = .returned (.int .i64 (32 + bl c.val : Nat)) ∧ w = w' := by
  have hx := c.isLt
  have h1 : ¬ ((65536 : Int) ≤ (c.val : Int)) := by omega
  have h2 : ¬ ((256 : Int) ≤ (c.val : Int)) := by omega
  go_enter Tryd.func75, Tryd.ntmps75
  go_wp2
  go_ret
  refine ⟨congrArg Ending.returned (congrArg (Value.int IntKind.i64) ?_), rfl⟩
  clear h0 e0 w
  revert c
  decide +kernel
set_option maxRecDepth 100000 in
set_option maxHeartbeats 2000000 in
theorem len64_110 (x a : Nat) (c : Fin 256) (h0 : ((4294967296 : Int) ≤ (x : Int))) (h1 : ((65536 : Int) ≤ (a : Int))) (e0 : ((x : Int) / 4294967296) = (a : Int)) (e1 : ((a : Int) / 65536) = (c.val : Int)) (w : World) :
    Calls Tryd.prog 75 #[.int .u64 (x : Int)] w fun e w' => e = .returned (.int .i64 (48 + bl c.val : Nat)) ∧ w = w' := by
  have hx := c.isLt
  have h2 : ¬ ((256 : Int) ≤ (c.val : Int)) := by omega
  go_enter Tryd.func75, Tryd.ntmps75
  go_wp2
  go_ret
  refine ⟨congrArg Ending.returned (congrArg (Value.int IntKind.i64) ?_), rfl⟩
  clear h0 h1 e0 e1 w
  revert c
  decide +kernel
set_option maxRecDepth 100000 in
set_option maxHeartbeats 2000000 in
theorem len64_111 (x a b : Nat) (c : Fin 256) (h0 : ((4294967296 : Int) ≤ (x : Int))) (h1 : ((65536 : Int) ≤ (a : Int))) (h2 : ((256 : Int) ≤ (b : Int))) (e0 : ((x : Int) / 4294967296) = (a : Int)) (e1 : ((a : Int) / 65536) = (b : Int)) (e2 : ((b : Int) / 256) = (c.val : Int)) (w : World) :
    Calls Tryd.prog 75 #[.int .u64 (x : Int)] w fun e w' => e = .returned (.int .i64 (56 + bl c.val : Nat)) ∧ w = w' := by
  have hx := c.isLt
  go_enter Tryd.func75, Tryd.ntmps75
  go_wp2
  go_ret
  refine ⟨congrArg Ending.returned (congrArg (Value.int IntKind.i64) ?_), rfl⟩
  clear h0 h1 h2 e0 e1 e2 w
  revert c
  decide +kernel
end Go.Proofs.YtmfoeolllobidaaDoor
