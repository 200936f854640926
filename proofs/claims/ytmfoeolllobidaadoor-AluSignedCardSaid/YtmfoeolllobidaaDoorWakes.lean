/- What wakes answers. -/
import Derived.Test.YtmfoeolllobidaaDoorShift
namespace Go.Proofs.YtmfoeolllobidaaDoor
open Go.RowKit
theorem wk_sub (w : World) (hm : Mk w) : Calls Tryd.prog 10 #[.int .i64 1, .int .u64 1, .int .u64 2, .bool false] w fun e w' => e = .returned (.tuple #[.int .u64 255, fl true false true false true]) ∧ Below w.heap.size w w' := by
  have h := asub_any 1 2 (by unfold U; decide) (by unfold U; decide) false 1 w hm
  have e1 : subR 1 2 false 1 = 255 := by decide +kernel
  have e2 : subO 1 2 false 1 = true := by decide +kernel
  have e3 : subV 1 2 false 1 = false := by decide +kernel
  have e4 : zB 255 1 = false := by decide +kernel
  have e5 : sB 255 1 = true := by decide +kernel
  have e6 : pB 255 = true := by decide +kernel
  rw [e1, e2, e3, e4, e5, e6] at h
  exact h
theorem cut_lit (a c : Nat) (wd : Int) (ha : U a) (hc : cN a wd = c) (w : World) (hm : Mk w) : Calls Tryd.prog 36 #[.int .u64 (a : Int), .int .i64 wd] w fun e w' => e = .returned (.int .u64 (c : Int)) ∧ w = w' := by
  subst hc; exact cut_any a ha wd w hm
theorem c80 (w : World) (hm : Mk w) : Calls Tryd.prog 36 #[.int .u64 0, .int .i64 8] w fun e w' => e = .returned (.int .u64 0) ∧ w = w' := cut_lit 0 0 8 (by unfold U; decide) (by decide) w hm
theorem c87 (w : World) (hm : Mk w) : Calls Tryd.prog 36 #[.int .u64 7, .int .i64 8] w fun e w' => e = .returned (.int .u64 7) ∧ w = w' := cut_lit 7 7 8 (by unfold U; decide) (by decide +kernel) w hm
theorem c82 (w : World) (hm : Mk w) : Calls Tryd.prog 36 #[.int .u64 2, .int .i64 8] w fun e w' => e = .returned (.int .u64 2) ∧ w = w' := cut_lit 2 2 8 (by unfold U; decide) (by decide +kernel) w hm
theorem held_8 (w : World) : Calls Tryd.prog 41 #[.int .i64 8] w fun e w' => e = .returned (.int .i64 8) ∧ w = w' := aheld_any 8 w
theorem d72 (w : World) : Calls Tryd.prog 48 #[.int .u64 0, .int .u64 7, .int .u64 2] w fun e w' => e = .returned (.tuple #[.int .u64 3, .int .u64 1]) ∧ ∃ k, w' = w.drewN k := div64_lo 7 2 (by unfold U; decide) (by decide) w
set_option maxHeartbeats 1000000 in
theorem wk_div (w : World) (hm : Mk w) : Calls Tryd.prog 26 #[.int .i64 8, .int .u64 0, .int .u64 7, .int .u64 2] w fun e w' => e = .returned (.tuple #[.int .u64 3, .int .u64 1, .bool true]) ∧ Below w.heap.size w w' := by
  have hb7 : bits BinOp.or IntKind.u64 0 7 = 7 := by decide +kernel
  go_enter Tryd.func26, Tryd.ntmps26
  go_wp2_with (first | (go_at_call 36; refine (c80 _ hm).mono ?_; rintro e w' ⟨rfl, rfl⟩) | (go_at_call 36; refine (c87 _ hm).mono ?_; rintro e w' ⟨rfl, rfl⟩) | (go_at_call 36; refine (c82 _ hm).mono ?_; rintro e w' ⟨rfl, rfl⟩) | (go_at_call 41; refine (held_8 _).mono ?_; rintro e w' ⟨rfl, rfl⟩))
  go_quiet ((go_at_call 48; exact Calls.quiet_of (d72 _)))
  go_wp2
  go_ret3
  exact ⟨rfl, below_drewN (Below.refl _ _) _⟩
set_option maxHeartbeats 1000000 in
theorem wk_none (w : World) (hm : Mk w) : Calls Tryd.prog 26 #[.int .i64 8, .int .u64 0, .int .u64 7, .int .u64 0] w fun e w' => e = .returned (.tuple #[.int .u64 0, .int .u64 0, .bool false]) ∧ Below w.heap.size w w' := by
  go_enter Tryd.func26, Tryd.ntmps26
  go_wp2_with (first | (go_at_call 36; refine (c80 _ hm).mono ?_; rintro e w' ⟨rfl, rfl⟩) | (go_at_call 36; refine (c87 _ hm).mono ?_; rintro e w' ⟨rfl, rfl⟩) | (go_at_call 41; refine (held_8 _).mono ?_; rintro e w' ⟨rfl, rfl⟩))
  go_ret3
  exact ⟨rfl, by go_grown⟩
set_option maxHeartbeats 2000000 in
theorem wakes_any (w : World) (hm : Mk w) : Calls Tryd.prog 28 #[] w fun e w' => e = .returned (.bool true) ∧ Below w.heap.size w w' := by
  go_enter Tryd.func28, Tryd.ntmps28
  go_wp2_with fail
  go_at_call 10
  refine (wk_sub _ hm).mono ?_
  rintro e w1 ⟨rfl, hb1⟩
  have hm1 := hm.own hb1
  have s1 := Lib.hid (Slot5.new w1 (.bool true) (.bool false) (.bool true) (.bool false) (.bool true) 24)
  have g1 : Below w.heap.size w (w1.alloc (Obj.cells #[Value.bool true, Value.bool false, Value.bool true, Value.bool false, Value.bool true] 24)) := hb1.alloc hb1.size _
  go_wp2_with fail
  go_at_call 26
  refine (wk_div _ (hm1.alloc _)).mono ?_
  rintro e w2 ⟨rfl, hb2⟩
  have hm2 := (hm1.alloc _).own hb2
  have s2 := Lib.hid (s1.out.keep hb2)
  have g2 : Below w.heap.size w w2 := g1.trans (hb2.mono g1.size)
  clear hb1 hb2 g1 s1
  go_wp2_with fail
  go_at_call 26
  refine (wk_none _ hm2).mono ?_
  rintro e w3 ⟨rfl, hb3⟩
  have hm3 := hm2.own hb3
  have s3 := Lib.hid (s2.out.keep hb3)
  have g3 : Below w.heap.size w w3 := g2.trans (hb3.mono g2.size)
  clear hb3 g2 s2
  go_wp2_with fail
  go_at_call 20
  refine (shift_none _ hm3).mono ?_
  rintro e w4 ⟨rfl, hb4⟩
  have g4 : Below w.heap.size w w4 := g3.trans (hb4.mono g3.size)
  have A := fun o => (s3.out.keep hb4).alloc o
  have c0 := fun o => (A o).1
  have c1 := fun o => (A o).2.1
  have c2 := fun o => (A o).2.2.1
  have c3 := fun o => (A o).2.2.2.1
  have c4 := fun o => (A o).2.2.2.2.1
  clear hb4 g3 s3 A hm hm1 hm2 hm3
  go_wp2
  trace_state
  go_ret
  refine ⟨rfl, g4.trans ?_⟩
  go_grown
  all_goals exact g4.size
end Go.Proofs.YtmfoeolllobidaaDoor
