/- Packed, Unpacked: one contract each (as in Cw; no text may import both). -/
import Derived.Test.YtkpnafgmjcnniaaDoorCq
namespace Go.Proofs.YtkpnafgmjcnniaaDoor
open Go.RowKit
set_option linter.unusedVariables false
theorem packed_any (C Z S O P : Bool) (W : World) : Calls Tryd.prog 37 #[fl C Z S O P] W fun e w' => e = .returned (.int .u8 (sumI C Z S O P seqE)) ∧ Below W.heap.size W w' :=
  callsIn_wide.1 (packed_in Fence.wide (Lib.hid rfl) 3 (Nat.le_refl _) C Z S O P W)
theorem unpacked_any (b : Int) (W : World) : Calls Tryd.prog 39 #[.int .u8 b] W fun e w' => e = .returned (fl (bitB b 1) (bitB b 64) (bitB b 128) (bitB b 8) (bitB b 4)) ∧ Below W.heap.size W w' :=
  callsIn_wide.1 (unpacked_in Fence.wide (Lib.hid rfl) 3 (Nat.le_refl _) b W)
end Go.Proofs.YtkpnafgmjcnniaaDoor
