/- The reference's within. -/
import Derived.Test.YtnaggdhophncaaaDoorNu
namespace Go.Proofs.YtnaggdhophncaaaDoor
open Go.RowKit Go.Shelf
set_option linter.unusedVariables false
set_option linter.unusedSimpArgs false
attribute [local go_sem] Oper.semAt_some
/-- Do so many bytes stand from there on within so many? -/
def rwithB (at_ need len : Nat) : Bool := decide (at_ ≤ len) && decide (need ≤ len - at_)
set_option maxHeartbeats 2000000 in
theorem rwithin_any (at_ need len : Nat) (hl : len < 9223372036854775808) (w : World) :
    Calls Tryd.prog 30 #[.int .u64 (at_ : Nat), .int .u64 (need : Nat), .int .i64 (len : Nat)] w fun e w' => e = .returned (.bool (rwithB at_ need len)) ∧ w' = w := by
  have w1 : IntKind.u64.wrap (len : Int) = (len : Int) := IntWalk.u64_in _ (by omega)
  by_cases h1 : at_ ≤ len
  · have w5 : IntKind.u64.wrap ((len : Int) - (at_ : Int)) = ((len - at_ : Nat) : Int) := by
      rw [IntWalk.u64_in _ (by omega)]; omega
    have HE : Hid (rwithB at_ need len = decide (need ≤ len - at_)) := Lib.hid (by unfold rwithB; simp [h1])
    go_enter Tryd.func30, Tryd.ntmps30
    go_wp2_with fail
    go_ret
    exact ⟨by rw [HE.out]; simp, rfl⟩
  · have HE : Hid (rwithB at_ need len = false) := Lib.hid (by unfold rwithB; simp [h1])
    go_enter Tryd.func30, Tryd.ntmps30
    go_wp2_with fail
    go_ret
    exact ⟨by rw [HE.out]; rfl, rfl⟩
/-- Both ask the same. -/
theorem with_same (len at_ many size : Nat) (h : many ≠ 0) : withB len at_ many size = rwithB at_ (many * size) len := by
  unfold withB rwithB
  simp [h]
end Go.Proofs.YtnaggdhophncaaaDoor
