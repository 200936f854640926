/- What the row's condition on bits.masks gives the walks. -/
import Derived.Test.YtkpnafgmjcnniaaDoorBa
import Derived.ProofKit
import Derived.LaidMore
import Derived.OpenShut
import Derived.Lib.LaidTab
import Derived.Below
namespace Go.Proofs.YtkpnafgmjcnniaaDoor
open Go.RowKit
theorem own : ownKnob Tryd.prog.godebug = none := by kernel_rfl
theorem gMasks : Tryd.prog.globalNamed "sundial/bits.masks" = some 0 := by kernel_rfl
theorem tMasks : (Tryd.prog.globals[0]?).map (·.type) = some 110 := by kernel_rfl
def laid1 : List (String × DataW Unit) := [("sundial/bits.masks", Rows.laid_sundial_bits_masks)]
theorem door_met (os : Os) (args : Array Value) : laidMetH Tryd.prog laid1 ((World.doorLaid Tryd.prog 400 os).forCall (fun _ _ => 0) ⟨#[], args, []⟩).memory :=
  laidMetH_of_parts3 (fuel := 8) (laidMet_of_run' 8 (by kernel_rfl) (by kernel_rfl)) (by kernel_rfl) (by kernel_rfl)
def maskTab : List Int := [255, 65535, 16777215, 4294967295, 1099511627775, 281474976710655, 72057594037927935, 18446744073709551615]
theorem mk_of_laid {W : World} (h : laidMetH Tryd.prog laid1 W) : Mk W := by
  rw [MakeChecks.laidMetH_plain _ _ _ (by kernel_rfl)] at h
  have ht : Lib.TabIs Tryd.prog W "sundial/bits.masks" .u64 maskTab := Lib.tabIs_of_head gMasks tMasks Tryd.underlying110 Tryd.underlying43 (by kernel_rfl) (by kernel_rfl) h
  intro i hi
  rw [ht.cell gMasks i (by simpa [maskTab] using hi)]
  congr 2
  have hall : ∀ i : Fin 8, maskTab.getD i.val 0 = (2 : Int) ^ (8 * (i.val + 1)) - 1 := by decide +kernel
  exact hall ⟨i, hi⟩
theorem nat_of_wf {a : Int} (h : (Lit.int .u64 a).wf = true) : ∃ k : Nat, a = k ∧ U k := by
  have hb := Go.bounds_u64 h
  obtain ⟨k, rfl⟩ := Int.eq_ofNat_of_zero_le hb.1
  exact ⟨k, rfl, by unfold U; omega⟩
end Go.Proofs.YtkpnafgmjcnniaaDoor
