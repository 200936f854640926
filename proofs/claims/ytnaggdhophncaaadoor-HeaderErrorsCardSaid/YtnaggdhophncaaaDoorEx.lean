/- Bytes put together by exclusive or. -/
import Derived.Test.YtnaggdhophncaaaDoorBa
namespace Go.Proofs.YtnaggdhophncaaaDoor
open Go.RowKit Go.Shelf
set_option linter.unusedVariables false
set_option linter.unusedSimpArgs false
attribute [local go_sem] Oper.semAt_some
theorem xor_u8 : ∀ a b : Fin 256, b.val ≠ 0 → 0 ≤ bits BinOp.xor IntKind.u8 (a.val : Int) (b.val : Int) ∧ bits BinOp.xor IntKind.u8 (a.val : Int) (b.val : Int) < 256 ∧ bits BinOp.xor IntKind.u8 (a.val : Int) (b.val : Int) ≠ (a.val : Int) := by decide +kernel
theorem xor_nat {a b : Nat} (ha : a < 256) (hb : b < 256) (h0 : b ≠ 0) : ∃ x : Nat, bits BinOp.xor IntKind.u8 (a : Int) (b : Int) = (x : Int) ∧ x < 256 ∧ x ≠ a := by
  obtain ⟨h1, h2, h3⟩ := xor_u8 ⟨a, ha⟩ ⟨b, hb⟩ h0
  refine ⟨(bits BinOp.xor IntKind.u8 (a : Int) (b : Int)).toNat, ?_, ?_, ?_⟩
  · exact (Int.toNat_of_nonneg h1).symm
  · have h2' : bits BinOp.xor IntKind.u8 (a : Int) (b : Int) < 256 := h2
    omega
  · intro e
    apply h3
    show bits BinOp.xor IntKind.u8 (a : Int) (b : Int) = (a : Int)
    have h1' : 0 ≤ bits BinOp.xor IntKind.u8 (a : Int) (b : Int) := h1
    omega
end Go.Proofs.YtnaggdhophncaaaDoor
