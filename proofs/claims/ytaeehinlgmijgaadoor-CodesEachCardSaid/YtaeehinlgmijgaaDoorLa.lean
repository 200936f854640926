/- What the row's condition on codes' two tables gives the walks. -/
import Derived.Test.YtaeehinlgmijgaaDoorPa
import Derived.ProofKit
import Derived.LaidMore
import Derived.OpenShut
import Derived.Lib.LaidTab
import Derived.Below
import Derived.Stop.LaidErr
namespace Go.Proofs.YtaeehinlgmijgaaDoor
open Go.RowKit
theorem own : ownKnob Tryd.prog.godebug = none := by kernel_rfl
theorem gSums : Tryd.prog.globalNamed "sundial/codes.sums" = some 0 := by kernel_rfl
theorem gShifts : Tryd.prog.globalNamed "sundial/codes.shifts" = some 1 := by kernel_rfl
theorem tSums : (Tryd.prog.globals[0]?).map (·.type) = some 50 := by kernel_rfl
theorem tShifts : (Tryd.prog.globals[1]?).map (·.type) = some 50 := by kernel_rfl
def laid1 : List (String × DataW Unit) := [("sundial/codes.sums", Rows.laid_sundial_codes_sums), ("sundial/codes.shifts", Rows.laid_sundial_codes_shifts)]
theorem door_met (os : Os) (args : Array Value) : laidMetH Tryd.prog laid1 ((World.doorLaid Tryd.prog 400 os).forCall (fun _ _ => 0) ⟨#[], args, []⟩).memory :=
  laidMetH_of_parts3 (fuel := 8) (laidMet_of_run' 8 (by kernel_rfl) (by kernel_rfl)) (by kernel_rfl) (by kernel_rfl)
theorem gl_of_laid {W : World} (h : laidMetH Tryd.prog laid1 W) : GL W := by
  rw [MakeChecks.laidMetH_plain _ _ _ (by kernel_rfl)] at h
  have h0 : Lib.TabIs Tryd.prog W "sundial/codes.sums" .u8 (sumV.map (fun x : Nat => (x : Int))) := Lib.tabIs_of_head gSums tSums Tryd.underlying50 Tryd.underlying5 (by kernel_rfl) (by kernel_rfl) h
  have h1 : Lib.TabIs Tryd.prog W "sundial/codes.shifts" .u8 (shiftV.map (fun x : Nat => (x : Int))) := Lib.tabIs_of_head (rest := []) gShifts tShifts Tryd.underlying50 Tryd.underlying5 (by kernel_rfl) (by kernel_rfl) (laidMet.tail h)
  refine ⟨fun i hi => ?_, fun i hi => ?_⟩
  · rw [h0.cell gSums i (by simpa [sumV] using hi)]
    congr 2
    simp only [List.getD_eq_getElem?_getD, List.getElem?_map]
    cases hx : sumV[i]? <;> simp
  · rw [h1.cell gShifts i (by simpa [shiftV] using hi)]
    congr 2
    simp only [List.getD_eq_getElem?_getD, List.getElem?_map]
    cases hx : shiftV[i]? <;> simp
theorem mk_of_laid {W : World} (h : laidMetH Tryd.prog laid1 W) : GL W := gl_of_laid h
end Go.Proofs.YtaeehinlgmijgaaDoor
