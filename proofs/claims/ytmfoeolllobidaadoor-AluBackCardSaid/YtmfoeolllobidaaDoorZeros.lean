/- The contract of math/bits.LeadingZeros64. -/
import Derived.Test.YtmfoeolllobidaaDoorLen2
import Derived.Test.YtmfoeolllobidaaDoorMuls
namespace Go.Proofs.YtmfoeolllobidaaDoor
open Go.RowKit
set_option maxHeartbeats 400000 in
theorem zeros_any (y s : Nat) (hs : s ≤ 64) (h : ∀ w, Calls Tryd.prog 75 #[.int .u64 (y : Int)] w fun e w' => e = .returned (.int .i64 ((64 - s : Nat) : Int)) ∧ w = w') (w : World) :
    Calls Tryd.prog 74 #[.int .u64 y] w fun e w' => e = .returned (.int .i64 (s : Nat)) ∧ w = w' := by
  have H := Lib.hid h
  clear h
  go_enter Tryd.func74, Tryd.ntmps74
  go_wp2_with (go_at_call 75; refine (H.out _).mono ?_; rintro e w' ⟨rfl, rfl⟩)
  go_ret
  refine ⟨congrArg Ending.returned (congrArg (Value.int IntKind.i64) ?_), rfl⟩
  omega
end Go.Proofs.YtmfoeolllobidaaDoor
