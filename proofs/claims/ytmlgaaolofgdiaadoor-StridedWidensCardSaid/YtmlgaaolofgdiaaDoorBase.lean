/- Package strided's small functions: what each answers, with what it leaves of the memory. -/
import Derived.Test.YtmlgaaolofgdiaaDoorRows
import Derived.Test.YtmlgaaolofgdiaaDoorSM
import Derived.WalkKit
import Derived.WalkSpells
import Derived.WalkLawsBesides
import Derived.Handy
import Derived.Lib.Hide
import Derived.Below
import Derived.RegionTactic
import Derived.Deep.RegionHeld3
import Derived.Deep.DrawnRows
import Derived.BigQuiet
import Derived.Deep.QuietTactic
namespace Go.Proofs.YtmlgaaolofgdiaaDoor
open Go.RowKit SM
/-- A word of 64 bits. -/
def U (a : Nat) : Prop := a < 18446744073709551616
/-- A set's value. -/
abbrev sv (s l h : Nat) : Value := .agg #[.int .u64 (s : Int), .int .u64 (l : Int), .int .u64 (h : Int)]
abbrev sb (s l h : Nat) : Obj := .cells #[.int .u64 (s : Int), .int .u64 (l : Int), .int .u64 (h : Int)] 24
set_option maxHeartbeats 400000 in
theorem none_any (w : World) :
    Calls Tryd.prog 26 #[] w fun e w' => e = .returned (sv 0 1 0) ∧ Below w.heap.size w w' := by
  go_enter Tryd.func26, Tryd.ntmps26
  go_wp2
  refine bodyPost_ret (v := sv 0 1 0) (by simp [results, Tryd.results26, go_sem]) rfl ⟨rfl, by go_grown⟩
set_option maxHeartbeats 400000 in
theorem one_any (x : Nat) (w : World) :
    Calls Tryd.prog 24 #[.int .u64 x] w fun e w' => e = .returned (sv 0 x x) ∧ Below w.heap.size w w' := by
  go_enter Tryd.func24, Tryd.ntmps24
  go_wp2
  refine bodyPost_ret (v := sv 0 x x) (by simp [results, Tryd.results24, go_sem]) rfl ⟨rfl, by go_grown⟩
set_option maxHeartbeats 400000 in
theorem isOne_any (s l h : Nat) (w : World) :
    Calls Tryd.prog 28 #[sv s l h] w fun e w' => e = .returned (.bool ((l : Int) == h)) ∧ Below w.heap.size w w' := by
  go_enter Tryd.func28, Tryd.ntmps28
  go_wp2
  go_ret
  refine ⟨rfl, by go_grown⟩
end Go.Proofs.YtmlgaaolofgdiaaDoor
