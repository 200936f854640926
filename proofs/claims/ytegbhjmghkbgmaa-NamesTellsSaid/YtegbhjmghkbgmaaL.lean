/- slices.SortStableFunc at one element at most: nothing is done. -/
import Derived.Test.YtegbhjmghkbgmaaK
namespace Go.Proofs.Ytegbhjmghkbgmaa
open Go.RowKit Go.Shelf
set_option linter.unusedVariables false
set_option linter.unusedSimpArgs false
attribute [local go_sem] Oper.semAt_some
set_option maxRecDepth 100000 in
set_option maxHeartbeats 4000000 in
theorem ins_one (a : Option Addr) (n c : Nat) (hn : n ≤ 1) (f : Value) (w : World) : Calls Try.prog 43 #[.slice a n c, .int .i64 0, .int .i64 (n : Nat), f] w fun e W' => e = .returned (.tuple #[]) ∧ W' = w := by
  have d1 : decide ((1 : Int) < (n : Int)) = false := decide_eq_false (by omega)
  have hx : ¬ (1 : Int) < (n : Int) := by omega
  go_enter Try.func43, Try.ntmps43
  go_wp2_with fail
  go_loopw [8] (fun i W => i = .int .i64 1 ∧ W = w) (fun i _ => 0)
  case atStart => exact ⟨rfl, rfl⟩
  case round =>
    obtain ⟨rfl, rfl⟩ := hrel
    go_wp2_with fail
    go_end0
    exact ⟨rfl, rfl⟩
set_option maxRecDepth 100000 in
set_option maxHeartbeats 4000000 in
theorem stable_one (a : Option Addr) (n c : Nat) (hn : n ≤ 1) (f : Value) (w : World) : Calls Try.prog 39 #[.slice a n c, .int .i64 (n : Nat), f] w fun e W' => e = .returned (.tuple #[]) ∧ W' = w := by
  have d1 : decide ((20 : Int) ≤ (n : Int)) = false := decide_eq_false (by omega)
  have d2 : decide ((20 : Int) < (n : Int)) = false := decide_eq_false (by omega)
  have hx : ¬ (20 : Int) < (n : Int) := by omega
  have hy : ¬ (20 : Int) ≤ (n : Int) := by omega
  have HI := Lib.hid (ins_one a n c hn f)
  go_enter Try.func39, Try.ntmps39
  go_wp2_with fail
  go_loopw [7, 8] (fun i j W => i = .int .i64 0 ∧ j = .int .i64 20 ∧ W = w) (fun _ _ _ => 0)
  case atStart => exact ⟨rfl, rfl, rfl⟩
  case round =>
    obtain ⟨rfl, rfl, rfl⟩ := hrel
    go_wp2_with (first | (go_at_call 43; refine (HI.out _).mono ?_) | fail)
    rintro e W1 ⟨rfl, rfl⟩
    go_wp2_with fail
    go_loopw [6] (fun i W => i = .int .i64 20 ∧ W = W1) (fun _ _ => 0)
    case atStart => exact ⟨rfl, rfl⟩
    case round =>
      obtain ⟨rfl, rfl⟩ := hrel
      go_wp2_with fail
      go_end0
      exact ⟨rfl, rfl⟩
set_option maxRecDepth 100000 in
set_option maxHeartbeats 4000000 in
theorem sort_one (a : Option Addr) (n c : Nat) (hn : n ≤ 1) (f : Value) (w : World) : Calls Try.prog 30 #[.slice a n c, f] w fun e W' => e = .returned (.tuple #[]) ∧ W' = w := by
  have HI := Lib.hid (stable_one a n c hn f)
  clear hn
  go_enter Try.func30, Try.ntmps30
  go_wp2_with (first | (go_at_call 39; refine (HI.out _).mono ?_) | fail)
  rintro e W1 ⟨rfl, rfl⟩
  go_wp2_with fail
  go_end0
  exact ⟨rfl, rfl⟩
end Go.Proofs.Ytegbhjmghkbgmaa
