/- The reference's Unpacked. -/
import Derived.Test.YtkpnafgmjcnniaaDoorCu
namespace Go.Proofs.YtkpnafgmjcnniaaDoor
open Go.RowKit
set_option linter.unusedVariables false
set_option linter.unusedSimpArgs false
theorem runpacked_any (n : Int) (w : World) : Calls Tryd.prog 40 #[.int .u8 n] w fun e w' => e = .returned (fl (bitB n 1) (bitB n 64) (bitB n 128) (bitB n 8) (bitB n 4)) ∧ Below w.heap.size w w' := by
  go_enter Tryd.func40, Tryd.ntmps40
  go_wp2
  go_returns
  exact ⟨rfl, by go_grown⟩
end Go.Proofs.YtkpnafgmjcnniaaDoor
