/- The walk of CpuConds. -/
import Derived.Test.YtkpnafgmjcnniaaDoorAw
namespace Go.Proofs.YtkpnafgmjcnniaaDoor
open Go.RowKit
set_option linter.unusedVariables false
set_option linter.unusedSimpArgs false
/-- The flags in their block. -/
def FH (w : World) (C Z S O P : Bool) (W : World) : Prop := W.heap[w.heap.size]? = some (.cells #[.bool C, .bool Z, .bool S, .bool O, .bool P] 48 (0, 0)) ∧ Below w.heap.size w W
theorem FH.keep {w W W' : World} {C Z S O P : Bool} (h : FH w C Z S O P W) (hb : Below W.heap.size W W') : FH w C Z S O P W' := ⟨(hb.block _ (Array.getElem?_eq_some_iff.1 h.1).1).trans h.1, h.2.trans (hb.mono h.2.size)⟩
theorem FH.drew {w W : World} {C Z S O P : Bool} (h : FH w C Z S O P W) : FH w C Z S O P W.drew := h.keep ((Below.refl _ _).drew)
theorem FH.new (w : World) (C Z S O P : Bool) : FH w C Z S O P (w.alloc (.cells #[.bool C, .bool Z, .bool S, .bool O, .bool P] 48)) := ⟨heap_alloc_last w _, (Below.refl _ _).alloc (Nat.le_refl _) _⟩
theorem FH.c {w W : World} {C Z S O P : Bool} (h : FH w C Z S O P W) : W.cell? ⟨w.heap.size, 0, none⟩ = some (.bool C) ∧ W.cell? ⟨w.heap.size, 1, none⟩ = some (.bool Z) ∧ W.cell? ⟨w.heap.size, 2, none⟩ = some (.bool S) ∧ W.cell? ⟨w.heap.size, 3, none⟩ = some (.bool O) ∧ W.cell? ⟨w.heap.size, 4, none⟩ = some (.bool P) := by
  have := h.1
  refine ⟨?_, ?_, ?_, ?_, ?_⟩ <;> simp [World.cell?, this]
end Go.Proofs.YtkpnafgmjcnniaaDoor
