/- Inverses of bytes: the first ones. -/
import Derived.Test.YtldicconopcipaaFa
namespace Go.Proofs.Ytldicconopcipaa
open Go.RowKit
theorem inv_fin : ∀ a : Fin 256, a.val ≠ 0 → (mulN a.val (invN a.val) = 1 ∧ 1 ≤ invN a.val) := by decide +kernel
theorem inv_first : ∀ a b : Fin 256, b.val < invN a.val → mulN a.val b.val ≠ 1 := by decide +kernel
theorem inv_zero : ∀ b : Fin 256, mulN 0 b.val ≠ 1 := by decide +kernel
theorem inv_none : invN 0 = 0 := by decide +kernel
end Go.Proofs.Ytldicconopcipaa
