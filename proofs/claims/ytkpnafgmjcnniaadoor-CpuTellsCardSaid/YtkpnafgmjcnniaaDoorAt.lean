/- The reference's Cond. -/
import Derived.Test.YtkpnafgmjcnniaaDoorCu
namespace Go.Proofs.YtkpnafgmjcnniaaDoor
open Go.RowKit
set_option linter.unusedVariables false
set_option linter.unusedSimpArgs false
theorem rcc_fin : ∀ n : Fin 256, bits .andNot .u8 ((n.val : Int).tmod 16) 1 = ((2 * (n.val % 16 / 2) : Nat) : Int) := by decide +kernel
set_option maxHeartbeats 4000000 in
theorem rcond_0 (C Z S O P : Bool) (cc : Int) (hk : bits .andNot .u8 (cc.tmod 16) 1 = 0) (w : World) :
    Calls Tryd.prog 36 #[fl C Z S O P, .int .u8 cc] w fun e w' => e = .returned (.bool (!((O) == (bits .and .u8 cc 1 == 1)))) ∧ Below w.heap.size w w' := by
  unfold fl
  go_enter Tryd.func36, Tryd.ntmps36
  go_wp2
  go_ret
  exact ⟨rfl, by go_grown⟩
set_option maxHeartbeats 4000000 in
theorem rcond_1 (C Z S O P : Bool) (cc : Int) (hk : bits .andNot .u8 (cc.tmod 16) 1 = 2) (w : World) :
    Calls Tryd.prog 36 #[fl C Z S O P, .int .u8 cc] w fun e w' => e = .returned (.bool (!((C) == (bits .and .u8 cc 1 == 1)))) ∧ Below w.heap.size w w' := by
  unfold fl
  go_enter Tryd.func36, Tryd.ntmps36
  go_wp2
  go_ret
  exact ⟨rfl, by go_grown⟩
set_option maxHeartbeats 4000000 in
theorem rcond_2 (C Z S O P : Bool) (cc : Int) (hk : bits .andNot .u8 (cc.tmod 16) 1 = 4) (w : World) :
    Calls Tryd.prog 36 #[fl C Z S O P, .int .u8 cc] w fun e w' => e = .returned (.bool (!((Z) == (bits .and .u8 cc 1 == 1)))) ∧ Below w.heap.size w w' := by
  unfold fl
  go_enter Tryd.func36, Tryd.ntmps36
  go_wp2
  go_ret
  exact ⟨rfl, by go_grown⟩
set_option maxHeartbeats 4000000 in
theorem rcond_3 (C Z S O P : Bool) (cc : Int) (hk : bits .andNot .u8 (cc.tmod 16) 1 = 6) (w : World) :
    Calls Tryd.prog 36 #[fl C Z S O P, .int .u8 cc] w fun e w' => e = .returned (.bool (!(((C || Z)) == (bits .and .u8 cc 1 == 1)))) ∧ Below w.heap.size w w' := by
  unfold fl
  cases C <;> cases Z <;> cases hb : (bits .and .u8 cc 1 == 1)
  all_goals
    go_enter Tryd.func36, Tryd.ntmps36
    go_wp2
    go_ret
    exact ⟨rfl, by go_grown⟩
set_option maxHeartbeats 4000000 in
theorem rcond_4 (C Z S O P : Bool) (cc : Int) (hk : bits .andNot .u8 (cc.tmod 16) 1 = 8) (w : World) :
    Calls Tryd.prog 36 #[fl C Z S O P, .int .u8 cc] w fun e w' => e = .returned (.bool (!((S) == (bits .and .u8 cc 1 == 1)))) ∧ Below w.heap.size w w' := by
  unfold fl
  go_enter Tryd.func36, Tryd.ntmps36
  go_wp2
  go_ret
  exact ⟨rfl, by go_grown⟩
set_option maxHeartbeats 4000000 in
theorem rcond_5 (C Z S O P : Bool) (cc : Int) (hk : bits .andNot .u8 (cc.tmod 16) 1 = 10) (w : World) :
    Calls Tryd.prog 36 #[fl C Z S O P, .int .u8 cc] w fun e w' => e = .returned (.bool (!((P) == (bits .and .u8 cc 1 == 1)))) ∧ Below w.heap.size w w' := by
  unfold fl
  go_enter Tryd.func36, Tryd.ntmps36
  go_wp2
  go_ret
  exact ⟨rfl, by go_grown⟩
set_option maxHeartbeats 4000000 in
theorem rcond_6 (C Z S O P : Bool) (cc : Int) (hk : bits .andNot .u8 (cc.tmod 16) 1 = 12) (w : World) :
    Calls Tryd.prog 36 #[fl C Z S O P, .int .u8 cc] w fun e w' => e = .returned (.bool (!((!(S == O)) == (bits .and .u8 cc 1 == 1)))) ∧ Below w.heap.size w w' := by
  unfold fl
  go_enter Tryd.func36, Tryd.ntmps36
  go_wp2
  go_ret
  exact ⟨rfl, by go_grown⟩
set_option maxHeartbeats 4000000 in
theorem rcond_7 (C Z S O P : Bool) (cc : Int) (hk : bits .andNot .u8 (cc.tmod 16) 1 = 14) (w : World) :
    Calls Tryd.prog 36 #[fl C Z S O P, .int .u8 cc] w fun e w' => e = .returned (.bool (!(((Z || !(S == O))) == (bits .and .u8 cc 1 == 1)))) ∧ Below w.heap.size w w' := by
  unfold fl
  cases C <;> cases Z <;> cases S <;> cases O <;> cases hb : (bits .and .u8 cc 1 == 1)
  all_goals
    go_enter Tryd.func36, Tryd.ntmps36
    go_wp2
    go_ret
    exact ⟨rfl, by go_grown⟩
end Go.Proofs.YtkpnafgmjcnniaaDoor
