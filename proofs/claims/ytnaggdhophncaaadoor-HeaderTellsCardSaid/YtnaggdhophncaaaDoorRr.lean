/- The reference's right. -/
import Derived.Test.YtnaggdhophncaaaDoorRt
import Derived.Test.YtnaggdhophncaaaDoorHm
namespace Go.Proofs.YtnaggdhophncaaaDoor
open Go.RowKit Go.Shelf
set_option linter.unusedVariables false
set_option linter.unusedSimpArgs false
attribute [local go_sem] Oper.semAt_some
theorem must_form (z : Nat → Nat) (k u a s x : Nat) (h1 : mU k = u) (h2 : mA k = a) (h3 : mS k = s) (h4 : mW k = x) : mustOk z k = ((!(u == 0) && numZ z u 2 == 0) || numZ z a s == x) := by
  unfold mustOk
  rw [h1, h2, h3, h4]
theorem kinds_form (z : Nat → Nat) : kindsB z = (((((((((((numZ z 4 1 == 2) && (numZ z 5 1 == 1)) && (numZ z 6 1 == 1)) && (numZ z 16 2 == 2)) && (numZ z 18 2 == 62)) && (numZ z 20 4 == 1)) && (numZ z 48 4 == 0)) && (numZ z 52 2 == 64)) && (numZ z 56 2 == 0 || numZ z 54 2 == 56)) && (numZ z 60 2 == 0 || numZ z 58 2 == 64)) && (decide (numZ z 56 2 ≤ 16) && decide (numZ z 60 2 ≤ 32))) := by
  unfold kindsB mustsB
  have hr : List.range 10 = [0, 1, 2, 3, 4, 5, 6, 7, 8, 9] := by decide
  rw [hr]
  simp only [List.all_cons, List.all_nil, Bool.and_true]
  have m0 : mustOk z 0 = (numZ z 4 1 == 2) := (must_form z 0 0 4 1 2 rfl rfl rfl rfl).trans (by generalize numZ z 4 1 = a; generalize numZ z 0 2 = b; simp)
  have m1 : mustOk z 1 = (numZ z 5 1 == 1) := (must_form z 1 0 5 1 1 rfl rfl rfl rfl).trans (by generalize numZ z 5 1 = a; generalize numZ z 0 2 = b; simp)
  have m2 : mustOk z 2 = (numZ z 6 1 == 1) := (must_form z 2 0 6 1 1 rfl rfl rfl rfl).trans (by generalize numZ z 6 1 = a; generalize numZ z 0 2 = b; simp)
  have m3 : mustOk z 3 = (numZ z 16 2 == 2) := (must_form z 3 0 16 2 2 rfl rfl rfl rfl).trans (by generalize numZ z 16 2 = a; generalize numZ z 0 2 = b; simp)
  have m4 : mustOk z 4 = (numZ z 18 2 == 62) := (must_form z 4 0 18 2 62 rfl rfl rfl rfl).trans (by generalize numZ z 18 2 = a; generalize numZ z 0 2 = b; simp)
  have m5 : mustOk z 5 = (numZ z 20 4 == 1) := (must_form z 5 0 20 4 1 rfl rfl rfl rfl).trans (by generalize numZ z 20 4 = a; generalize numZ z 0 2 = b; simp)
  have m6 : mustOk z 6 = (numZ z 48 4 == 0) := (must_form z 6 0 48 4 0 rfl rfl rfl rfl).trans (by generalize numZ z 48 4 = a; generalize numZ z 0 2 = b; simp)
  have m7 : mustOk z 7 = (numZ z 52 2 == 64) := (must_form z 7 0 52 2 64 rfl rfl rfl rfl).trans (by generalize numZ z 52 2 = a; generalize numZ z 0 2 = b; simp)
  have m8 : mustOk z 8 = (numZ z 56 2 == 0 || numZ z 54 2 == 56) := (must_form z 8 56 54 2 56 rfl rfl rfl rfl).trans (by generalize numZ z 54 2 = a; generalize numZ z 56 2 = b; simp)
  have m9 : mustOk z 9 = (numZ z 60 2 == 0 || numZ z 58 2 == 64) := (must_form z 9 60 58 2 64 rfl rfl rfl rfl).trans (by generalize numZ z 58 2 = a; generalize numZ z 60 2 = b; simp)
  rw [m0, m1, m2, m3, m4, m5, m6, m7, m8, m9]
  simp only [Bool.and_assoc]
set_option maxRecDepth 100000 in
set_option maxHeartbeats 8000000 in
theorem right_l0 (ad : Option Addr) (len cap : Nat) (n0 n10 n11 : Nat) (w : World) (HC0 : Hid (Calls Tryd.prog 29 #[.slice ad len cap, .int .i64 (4 : Nat), .int .i64 (1 : Nat)] w fun e w' => e = .returned (.int .u64 (n0 : Nat)) ∧ w' = w)) (HC10 : Hid (Calls Tryd.prog 29 #[.slice ad len cap, .int .i64 (56 : Nat), .int .i64 (2 : Nat)] w fun e w' => e = .returned (.int .u64 (n10 : Nat)) ∧ w' = w)) (HC11 : Hid (Calls Tryd.prog 29 #[.slice ad len cap, .int .i64 (60 : Nat), .int .i64 (2 : Nat)] w fun e w' => e = .returned (.int .u64 (n11 : Nat)) ∧ w' = w)) (h0 : ¬ n0 = 2) : Calls Tryd.prog 28 #[.slice ad len cap] w fun e W' => e = .returned (.bool false) ∧ W' = w := by
  have e0 : ((n0 : Int) == 2) = false := by simp; omega
  go_enter Tryd.func28, Tryd.ntmps28
  go_wp2_with fail
  go_at_call 29
  refine HC10.out.mono ?_
  first | (rintro e W9 rfl rfl) | (rintro e W9 ⟨rfl, rfl⟩)
  go_wp2_with fail
  go_at_call 29
  refine HC11.out.mono ?_
  first | (rintro e W9 rfl rfl) | (rintro e W9 ⟨rfl, rfl⟩)
  go_wp2_with fail
  go_at_call 29
  refine HC0.out.mono ?_
  first | (rintro e W9 rfl rfl) | (rintro e W9 ⟨rfl, rfl⟩)
  go_wp2_with fail
  go_ret
  exact ⟨rfl, rfl⟩
set_option maxRecDepth 100000 in
set_option maxHeartbeats 8000000 in
theorem right_l1 (ad : Option Addr) (len cap : Nat) (n0 n1 n10 n11 : Nat) (w : World) (HC0 : Hid (Calls Tryd.prog 29 #[.slice ad len cap, .int .i64 (4 : Nat), .int .i64 (1 : Nat)] w fun e w' => e = .returned (.int .u64 (n0 : Nat)) ∧ w' = w)) (HC1 : Hid (Calls Tryd.prog 29 #[.slice ad len cap, .int .i64 (5 : Nat), .int .i64 (1 : Nat)] w fun e w' => e = .returned (.int .u64 (n1 : Nat)) ∧ w' = w)) (HC10 : Hid (Calls Tryd.prog 29 #[.slice ad len cap, .int .i64 (56 : Nat), .int .i64 (2 : Nat)] w fun e w' => e = .returned (.int .u64 (n10 : Nat)) ∧ w' = w)) (HC11 : Hid (Calls Tryd.prog 29 #[.slice ad len cap, .int .i64 (60 : Nat), .int .i64 (2 : Nat)] w fun e w' => e = .returned (.int .u64 (n11 : Nat)) ∧ w' = w)) (h0 : n0 = 2) (h1 : ¬ n1 = 1) : Calls Tryd.prog 28 #[.slice ad len cap] w fun e W' => e = .returned (.bool false) ∧ W' = w := by
  have e0 : ((n0 : Int) == 2) = true := by simp; omega
  have e1 : ((n1 : Int) == 1) = false := by simp; omega
  go_enter Tryd.func28, Tryd.ntmps28
  go_wp2_with fail
  go_at_call 29
  refine HC10.out.mono ?_
  first | (rintro e W9 rfl rfl) | (rintro e W9 ⟨rfl, rfl⟩)
  go_wp2_with fail
  go_at_call 29
  refine HC11.out.mono ?_
  first | (rintro e W9 rfl rfl) | (rintro e W9 ⟨rfl, rfl⟩)
  go_wp2_with fail
  go_at_call 29
  refine HC0.out.mono ?_
  first | (rintro e W9 rfl rfl) | (rintro e W9 ⟨rfl, rfl⟩)
  go_wp2_with fail
  go_at_call 29
  refine HC1.out.mono ?_
  first | (rintro e W9 rfl rfl) | (rintro e W9 ⟨rfl, rfl⟩)
  go_wp2_with fail
  go_ret
  exact ⟨rfl, rfl⟩
set_option maxRecDepth 100000 in
set_option maxHeartbeats 8000000 in
theorem right_l2 (ad : Option Addr) (len cap : Nat) (n0 n1 n2 n10 n11 : Nat) (w : World) (HC0 : Hid (Calls Tryd.prog 29 #[.slice ad len cap, .int .i64 (4 : Nat), .int .i64 (1 : Nat)] w fun e w' => e = .returned (.int .u64 (n0 : Nat)) ∧ w' = w)) (HC1 : Hid (Calls Tryd.prog 29 #[.slice ad len cap, .int .i64 (5 : Nat), .int .i64 (1 : Nat)] w fun e w' => e = .returned (.int .u64 (n1 : Nat)) ∧ w' = w)) (HC2 : Hid (Calls Tryd.prog 29 #[.slice ad len cap, .int .i64 (6 : Nat), .int .i64 (1 : Nat)] w fun e w' => e = .returned (.int .u64 (n2 : Nat)) ∧ w' = w)) (HC10 : Hid (Calls Tryd.prog 29 #[.slice ad len cap, .int .i64 (56 : Nat), .int .i64 (2 : Nat)] w fun e w' => e = .returned (.int .u64 (n10 : Nat)) ∧ w' = w)) (HC11 : Hid (Calls Tryd.prog 29 #[.slice ad len cap, .int .i64 (60 : Nat), .int .i64 (2 : Nat)] w fun e w' => e = .returned (.int .u64 (n11 : Nat)) ∧ w' = w)) (h0 : n0 = 2) (h1 : n1 = 1) (h2 : ¬ n2 = 1) : Calls Tryd.prog 28 #[.slice ad len cap] w fun e W' => e = .returned (.bool false) ∧ W' = w := by
  have e0 : ((n0 : Int) == 2) = true := by simp; omega
  have e1 : ((n1 : Int) == 1) = true := by simp; omega
  have e2 : ((n2 : Int) == 1) = false := by simp; omega
  go_enter Tryd.func28, Tryd.ntmps28
  go_wp2_with fail
  go_at_call 29
  refine HC10.out.mono ?_
  first | (rintro e W9 rfl rfl) | (rintro e W9 ⟨rfl, rfl⟩)
  go_wp2_with fail
  go_at_call 29
  refine HC11.out.mono ?_
  first | (rintro e W9 rfl rfl) | (rintro e W9 ⟨rfl, rfl⟩)
  go_wp2_with fail
  go_at_call 29
  refine HC0.out.mono ?_
  first | (rintro e W9 rfl rfl) | (rintro e W9 ⟨rfl, rfl⟩)
  go_wp2_with fail
  go_at_call 29
  refine HC1.out.mono ?_
  first | (rintro e W9 rfl rfl) | (rintro e W9 ⟨rfl, rfl⟩)
  go_wp2_with fail
  go_at_call 29
  refine HC2.out.mono ?_
  first | (rintro e W9 rfl rfl) | (rintro e W9 ⟨rfl, rfl⟩)
  go_wp2_with fail
  go_ret
  exact ⟨rfl, rfl⟩
set_option maxRecDepth 100000 in
set_option maxHeartbeats 8000000 in
theorem right_l3 (ad : Option Addr) (len cap : Nat) (n0 n1 n2 n3 n10 n11 : Nat) (w : World) (HC0 : Hid (Calls Tryd.prog 29 #[.slice ad len cap, .int .i64 (4 : Nat), .int .i64 (1 : Nat)] w fun e w' => e = .returned (.int .u64 (n0 : Nat)) ∧ w' = w)) (HC1 : Hid (Calls Tryd.prog 29 #[.slice ad len cap, .int .i64 (5 : Nat), .int .i64 (1 : Nat)] w fun e w' => e = .returned (.int .u64 (n1 : Nat)) ∧ w' = w)) (HC2 : Hid (Calls Tryd.prog 29 #[.slice ad len cap, .int .i64 (6 : Nat), .int .i64 (1 : Nat)] w fun e w' => e = .returned (.int .u64 (n2 : Nat)) ∧ w' = w)) (HC3 : Hid (Calls Tryd.prog 29 #[.slice ad len cap, .int .i64 (16 : Nat), .int .i64 (2 : Nat)] w fun e w' => e = .returned (.int .u64 (n3 : Nat)) ∧ w' = w)) (HC10 : Hid (Calls Tryd.prog 29 #[.slice ad len cap, .int .i64 (56 : Nat), .int .i64 (2 : Nat)] w fun e w' => e = .returned (.int .u64 (n10 : Nat)) ∧ w' = w)) (HC11 : Hid (Calls Tryd.prog 29 #[.slice ad len cap, .int .i64 (60 : Nat), .int .i64 (2 : Nat)] w fun e w' => e = .returned (.int .u64 (n11 : Nat)) ∧ w' = w)) (h0 : n0 = 2) (h1 : n1 = 1) (h2 : n2 = 1) (h3 : ¬ n3 = 2) : Calls Tryd.prog 28 #[.slice ad len cap] w fun e W' => e = .returned (.bool false) ∧ W' = w := by
  have e0 : ((n0 : Int) == 2) = true := by simp; omega
  have e1 : ((n1 : Int) == 1) = true := by simp; omega
  have e2 : ((n2 : Int) == 1) = true := by simp; omega
  have e3 : ((n3 : Int) == 2) = false := by simp; omega
  go_enter Tryd.func28, Tryd.ntmps28
  go_wp2_with fail
  go_at_call 29
  refine HC10.out.mono ?_
  first | (rintro e W9 rfl rfl) | (rintro e W9 ⟨rfl, rfl⟩)
  go_wp2_with fail
  go_at_call 29
  refine HC11.out.mono ?_
  first | (rintro e W9 rfl rfl) | (rintro e W9 ⟨rfl, rfl⟩)
  go_wp2_with fail
  go_at_call 29
  refine HC0.out.mono ?_
  first | (rintro e W9 rfl rfl) | (rintro e W9 ⟨rfl, rfl⟩)
  go_wp2_with fail
  go_at_call 29
  refine HC1.out.mono ?_
  first | (rintro e W9 rfl rfl) | (rintro e W9 ⟨rfl, rfl⟩)
  go_wp2_with fail
  go_at_call 29
  refine HC2.out.mono ?_
  first | (rintro e W9 rfl rfl) | (rintro e W9 ⟨rfl, rfl⟩)
  go_wp2_with fail
  go_at_call 29
  refine HC3.out.mono ?_
  first | (rintro e W9 rfl rfl) | (rintro e W9 ⟨rfl, rfl⟩)
  go_wp2_with fail
  go_ret
  exact ⟨rfl, rfl⟩
set_option maxRecDepth 100000 in
set_option maxHeartbeats 8000000 in
theorem right_l4 (ad : Option Addr) (len cap : Nat) (n0 n1 n2 n3 n4 n10 n11 : Nat) (w : World) (HC0 : Hid (Calls Tryd.prog 29 #[.slice ad len cap, .int .i64 (4 : Nat), .int .i64 (1 : Nat)] w fun e w' => e = .returned (.int .u64 (n0 : Nat)) ∧ w' = w)) (HC1 : Hid (Calls Tryd.prog 29 #[.slice ad len cap, .int .i64 (5 : Nat), .int .i64 (1 : Nat)] w fun e w' => e = .returned (.int .u64 (n1 : Nat)) ∧ w' = w)) (HC2 : Hid (Calls Tryd.prog 29 #[.slice ad len cap, .int .i64 (6 : Nat), .int .i64 (1 : Nat)] w fun e w' => e = .returned (.int .u64 (n2 : Nat)) ∧ w' = w)) (HC3 : Hid (Calls Tryd.prog 29 #[.slice ad len cap, .int .i64 (16 : Nat), .int .i64 (2 : Nat)] w fun e w' => e = .returned (.int .u64 (n3 : Nat)) ∧ w' = w)) (HC4 : Hid (Calls Tryd.prog 29 #[.slice ad len cap, .int .i64 (18 : Nat), .int .i64 (2 : Nat)] w fun e w' => e = .returned (.int .u64 (n4 : Nat)) ∧ w' = w)) (HC10 : Hid (Calls Tryd.prog 29 #[.slice ad len cap, .int .i64 (56 : Nat), .int .i64 (2 : Nat)] w fun e w' => e = .returned (.int .u64 (n10 : Nat)) ∧ w' = w)) (HC11 : Hid (Calls Tryd.prog 29 #[.slice ad len cap, .int .i64 (60 : Nat), .int .i64 (2 : Nat)] w fun e w' => e = .returned (.int .u64 (n11 : Nat)) ∧ w' = w)) (h0 : n0 = 2) (h1 : n1 = 1) (h2 : n2 = 1) (h3 : n3 = 2) (h4 : ¬ n4 = 62) : Calls Tryd.prog 28 #[.slice ad len cap] w fun e W' => e = .returned (.bool false) ∧ W' = w := by
  have e0 : ((n0 : Int) == 2) = true := by simp; omega
  have e1 : ((n1 : Int) == 1) = true := by simp; omega
  have e2 : ((n2 : Int) == 1) = true := by simp; omega
  have e3 : ((n3 : Int) == 2) = true := by simp; omega
  have e4 : ((n4 : Int) == 62) = false := by simp; omega
  go_enter Tryd.func28, Tryd.ntmps28
  go_wp2_with fail
  go_at_call 29
  refine HC10.out.mono ?_
  first | (rintro e W9 rfl rfl) | (rintro e W9 ⟨rfl, rfl⟩)
  go_wp2_with fail
  go_at_call 29
  refine HC11.out.mono ?_
  first | (rintro e W9 rfl rfl) | (rintro e W9 ⟨rfl, rfl⟩)
  go_wp2_with fail
  go_at_call 29
  refine HC0.out.mono ?_
  first | (rintro e W9 rfl rfl) | (rintro e W9 ⟨rfl, rfl⟩)
  go_wp2_with fail
  go_at_call 29
  refine HC1.out.mono ?_
  first | (rintro e W9 rfl rfl) | (rintro e W9 ⟨rfl, rfl⟩)
  go_wp2_with fail
  go_at_call 29
  refine HC2.out.mono ?_
  first | (rintro e W9 rfl rfl) | (rintro e W9 ⟨rfl, rfl⟩)
  go_wp2_with fail
  go_at_call 29
  refine HC3.out.mono ?_
  first | (rintro e W9 rfl rfl) | (rintro e W9 ⟨rfl, rfl⟩)
  go_wp2_with fail
  go_at_call 29
  refine HC4.out.mono ?_
  first | (rintro e W9 rfl rfl) | (rintro e W9 ⟨rfl, rfl⟩)
  go_wp2_with fail
  go_ret
  exact ⟨rfl, rfl⟩
set_option maxRecDepth 100000 in
set_option maxHeartbeats 8000000 in
theorem right_l5 (ad : Option Addr) (len cap : Nat) (n0 n1 n2 n3 n4 n5 n10 n11 : Nat) (w : World) (HC0 : Hid (Calls Tryd.prog 29 #[.slice ad len cap, .int .i64 (4 : Nat), .int .i64 (1 : Nat)] w fun e w' => e = .returned (.int .u64 (n0 : Nat)) ∧ w' = w)) (HC1 : Hid (Calls Tryd.prog 29 #[.slice ad len cap, .int .i64 (5 : Nat), .int .i64 (1 : Nat)] w fun e w' => e = .returned (.int .u64 (n1 : Nat)) ∧ w' = w)) (HC2 : Hid (Calls Tryd.prog 29 #[.slice ad len cap, .int .i64 (6 : Nat), .int .i64 (1 : Nat)] w fun e w' => e = .returned (.int .u64 (n2 : Nat)) ∧ w' = w)) (HC3 : Hid (Calls Tryd.prog 29 #[.slice ad len cap, .int .i64 (16 : Nat), .int .i64 (2 : Nat)] w fun e w' => e = .returned (.int .u64 (n3 : Nat)) ∧ w' = w)) (HC4 : Hid (Calls Tryd.prog 29 #[.slice ad len cap, .int .i64 (18 : Nat), .int .i64 (2 : Nat)] w fun e w' => e = .returned (.int .u64 (n4 : Nat)) ∧ w' = w)) (HC5 : Hid (Calls Tryd.prog 29 #[.slice ad len cap, .int .i64 (20 : Nat), .int .i64 (4 : Nat)] w fun e w' => e = .returned (.int .u64 (n5 : Nat)) ∧ w' = w)) (HC10 : Hid (Calls Tryd.prog 29 #[.slice ad len cap, .int .i64 (56 : Nat), .int .i64 (2 : Nat)] w fun e w' => e = .returned (.int .u64 (n10 : Nat)) ∧ w' = w)) (HC11 : Hid (Calls Tryd.prog 29 #[.slice ad len cap, .int .i64 (60 : Nat), .int .i64 (2 : Nat)] w fun e w' => e = .returned (.int .u64 (n11 : Nat)) ∧ w' = w)) (h0 : n0 = 2) (h1 : n1 = 1) (h2 : n2 = 1) (h3 : n3 = 2) (h4 : n4 = 62) (h5 : ¬ n5 = 1) : Calls Tryd.prog 28 #[.slice ad len cap] w fun e W' => e = .returned (.bool false) ∧ W' = w := by
  have e0 : ((n0 : Int) == 2) = true := by simp; omega
  have e1 : ((n1 : Int) == 1) = true := by simp; omega
  have e2 : ((n2 : Int) == 1) = true := by simp; omega
  have e3 : ((n3 : Int) == 2) = true := by simp; omega
  have e4 : ((n4 : Int) == 62) = true := by simp; omega
  have e5 : ((n5 : Int) == 1) = false := by simp; omega
  go_enter Tryd.func28, Tryd.ntmps28
  go_wp2_with fail
  go_at_call 29
  refine HC10.out.mono ?_
  first | (rintro e W9 rfl rfl) | (rintro e W9 ⟨rfl, rfl⟩)
  go_wp2_with fail
  go_at_call 29
  refine HC11.out.mono ?_
  first | (rintro e W9 rfl rfl) | (rintro e W9 ⟨rfl, rfl⟩)
  go_wp2_with fail
  go_at_call 29
  refine HC0.out.mono ?_
  first | (rintro e W9 rfl rfl) | (rintro e W9 ⟨rfl, rfl⟩)
  go_wp2_with fail
  go_at_call 29
  refine HC1.out.mono ?_
  first | (rintro e W9 rfl rfl) | (rintro e W9 ⟨rfl, rfl⟩)
  go_wp2_with fail
  go_at_call 29
  refine HC2.out.mono ?_
  first | (rintro e W9 rfl rfl) | (rintro e W9 ⟨rfl, rfl⟩)
  go_wp2_with fail
  go_at_call 29
  refine HC3.out.mono ?_
  first | (rintro e W9 rfl rfl) | (rintro e W9 ⟨rfl, rfl⟩)
  go_wp2_with fail
  go_at_call 29
  refine HC4.out.mono ?_
  first | (rintro e W9 rfl rfl) | (rintro e W9 ⟨rfl, rfl⟩)
  go_wp2_with fail
  go_at_call 29
  refine HC5.out.mono ?_
  first | (rintro e W9 rfl rfl) | (rintro e W9 ⟨rfl, rfl⟩)
  go_wp2_with fail
  go_ret
  exact ⟨rfl, rfl⟩
set_option maxRecDepth 100000 in
set_option maxHeartbeats 8000000 in
theorem right_l6 (ad : Option Addr) (len cap : Nat) (n0 n1 n2 n3 n4 n5 n6 n10 n11 : Nat) (w : World) (HC0 : Hid (Calls Tryd.prog 29 #[.slice ad len cap, .int .i64 (4 : Nat), .int .i64 (1 : Nat)] w fun e w' => e = .returned (.int .u64 (n0 : Nat)) ∧ w' = w)) (HC1 : Hid (Calls Tryd.prog 29 #[.slice ad len cap, .int .i64 (5 : Nat), .int .i64 (1 : Nat)] w fun e w' => e = .returned (.int .u64 (n1 : Nat)) ∧ w' = w)) (HC2 : Hid (Calls Tryd.prog 29 #[.slice ad len cap, .int .i64 (6 : Nat), .int .i64 (1 : Nat)] w fun e w' => e = .returned (.int .u64 (n2 : Nat)) ∧ w' = w)) (HC3 : Hid (Calls Tryd.prog 29 #[.slice ad len cap, .int .i64 (16 : Nat), .int .i64 (2 : Nat)] w fun e w' => e = .returned (.int .u64 (n3 : Nat)) ∧ w' = w)) (HC4 : Hid (Calls Tryd.prog 29 #[.slice ad len cap, .int .i64 (18 : Nat), .int .i64 (2 : Nat)] w fun e w' => e = .returned (.int .u64 (n4 : Nat)) ∧ w' = w)) (HC5 : Hid (Calls Tryd.prog 29 #[.slice ad len cap, .int .i64 (20 : Nat), .int .i64 (4 : Nat)] w fun e w' => e = .returned (.int .u64 (n5 : Nat)) ∧ w' = w)) (HC6 : Hid (Calls Tryd.prog 29 #[.slice ad len cap, .int .i64 (48 : Nat), .int .i64 (4 : Nat)] w fun e w' => e = .returned (.int .u64 (n6 : Nat)) ∧ w' = w)) (HC10 : Hid (Calls Tryd.prog 29 #[.slice ad len cap, .int .i64 (56 : Nat), .int .i64 (2 : Nat)] w fun e w' => e = .returned (.int .u64 (n10 : Nat)) ∧ w' = w)) (HC11 : Hid (Calls Tryd.prog 29 #[.slice ad len cap, .int .i64 (60 : Nat), .int .i64 (2 : Nat)] w fun e w' => e = .returned (.int .u64 (n11 : Nat)) ∧ w' = w)) (h0 : n0 = 2) (h1 : n1 = 1) (h2 : n2 = 1) (h3 : n3 = 2) (h4 : n4 = 62) (h5 : n5 = 1) (h6 : ¬ n6 = 0) : Calls Tryd.prog 28 #[.slice ad len cap] w fun e W' => e = .returned (.bool false) ∧ W' = w := by
  have e0 : ((n0 : Int) == 2) = true := by simp; omega
  have e1 : ((n1 : Int) == 1) = true := by simp; omega
  have e2 : ((n2 : Int) == 1) = true := by simp; omega
  have e3 : ((n3 : Int) == 2) = true := by simp; omega
  have e4 : ((n4 : Int) == 62) = true := by simp; omega
  have e5 : ((n5 : Int) == 1) = true := by simp; omega
  have e6 : ((n6 : Int) == 0) = false := by simp; omega
  go_enter Tryd.func28, Tryd.ntmps28
  go_wp2_with fail
  go_at_call 29
  refine HC10.out.mono ?_
  first | (rintro e W9 rfl rfl) | (rintro e W9 ⟨rfl, rfl⟩)
  go_wp2_with fail
  go_at_call 29
  refine HC11.out.mono ?_
  first | (rintro e W9 rfl rfl) | (rintro e W9 ⟨rfl, rfl⟩)
  go_wp2_with fail
  go_at_call 29
  refine HC0.out.mono ?_
  first | (rintro e W9 rfl rfl) | (rintro e W9 ⟨rfl, rfl⟩)
  go_wp2_with fail
  go_at_call 29
  refine HC1.out.mono ?_
  first | (rintro e W9 rfl rfl) | (rintro e W9 ⟨rfl, rfl⟩)
  go_wp2_with fail
  go_at_call 29
  refine HC2.out.mono ?_
  first | (rintro e W9 rfl rfl) | (rintro e W9 ⟨rfl, rfl⟩)
  go_wp2_with fail
  go_at_call 29
  refine HC3.out.mono ?_
  first | (rintro e W9 rfl rfl) | (rintro e W9 ⟨rfl, rfl⟩)
  go_wp2_with fail
  go_at_call 29
  refine HC4.out.mono ?_
  first | (rintro e W9 rfl rfl) | (rintro e W9 ⟨rfl, rfl⟩)
  go_wp2_with fail
  go_at_call 29
  refine HC5.out.mono ?_
  first | (rintro e W9 rfl rfl) | (rintro e W9 ⟨rfl, rfl⟩)
  go_wp2_with fail
  go_at_call 29
  refine HC6.out.mono ?_
  first | (rintro e W9 rfl rfl) | (rintro e W9 ⟨rfl, rfl⟩)
  go_wp2_with fail
  go_ret
  exact ⟨rfl, rfl⟩
set_option maxRecDepth 100000 in
set_option maxHeartbeats 8000000 in
theorem right_l7 (ad : Option Addr) (len cap : Nat) (n0 n1 n2 n3 n4 n5 n6 n7 n10 n11 : Nat) (w : World) (HC0 : Hid (Calls Tryd.prog 29 #[.slice ad len cap, .int .i64 (4 : Nat), .int .i64 (1 : Nat)] w fun e w' => e = .returned (.int .u64 (n0 : Nat)) ∧ w' = w)) (HC1 : Hid (Calls Tryd.prog 29 #[.slice ad len cap, .int .i64 (5 : Nat), .int .i64 (1 : Nat)] w fun e w' => e = .returned (.int .u64 (n1 : Nat)) ∧ w' = w)) (HC2 : Hid (Calls Tryd.prog 29 #[.slice ad len cap, .int .i64 (6 : Nat), .int .i64 (1 : Nat)] w fun e w' => e = .returned (.int .u64 (n2 : Nat)) ∧ w' = w)) (HC3 : Hid (Calls Tryd.prog 29 #[.slice ad len cap, .int .i64 (16 : Nat), .int .i64 (2 : Nat)] w fun e w' => e = .returned (.int .u64 (n3 : Nat)) ∧ w' = w)) (HC4 : Hid (Calls Tryd.prog 29 #[.slice ad len cap, .int .i64 (18 : Nat), .int .i64 (2 : Nat)] w fun e w' => e = .returned (.int .u64 (n4 : Nat)) ∧ w' = w)) (HC5 : Hid (Calls Tryd.prog 29 #[.slice ad len cap, .int .i64 (20 : Nat), .int .i64 (4 : Nat)] w fun e w' => e = .returned (.int .u64 (n5 : Nat)) ∧ w' = w)) (HC6 : Hid (Calls Tryd.prog 29 #[.slice ad len cap, .int .i64 (48 : Nat), .int .i64 (4 : Nat)] w fun e w' => e = .returned (.int .u64 (n6 : Nat)) ∧ w' = w)) (HC7 : Hid (Calls Tryd.prog 29 #[.slice ad len cap, .int .i64 (52 : Nat), .int .i64 (2 : Nat)] w fun e w' => e = .returned (.int .u64 (n7 : Nat)) ∧ w' = w)) (HC10 : Hid (Calls Tryd.prog 29 #[.slice ad len cap, .int .i64 (56 : Nat), .int .i64 (2 : Nat)] w fun e w' => e = .returned (.int .u64 (n10 : Nat)) ∧ w' = w)) (HC11 : Hid (Calls Tryd.prog 29 #[.slice ad len cap, .int .i64 (60 : Nat), .int .i64 (2 : Nat)] w fun e w' => e = .returned (.int .u64 (n11 : Nat)) ∧ w' = w)) (h0 : n0 = 2) (h1 : n1 = 1) (h2 : n2 = 1) (h3 : n3 = 2) (h4 : n4 = 62) (h5 : n5 = 1) (h6 : n6 = 0) (h7 : ¬ n7 = 64) : Calls Tryd.prog 28 #[.slice ad len cap] w fun e W' => e = .returned (.bool false) ∧ W' = w := by
  have e0 : ((n0 : Int) == 2) = true := by simp; omega
  have e1 : ((n1 : Int) == 1) = true := by simp; omega
  have e2 : ((n2 : Int) == 1) = true := by simp; omega
  have e3 : ((n3 : Int) == 2) = true := by simp; omega
  have e4 : ((n4 : Int) == 62) = true := by simp; omega
  have e5 : ((n5 : Int) == 1) = true := by simp; omega
  have e6 : ((n6 : Int) == 0) = true := by simp; omega
  have e7 : ((n7 : Int) == 64) = false := by simp; omega
  go_enter Tryd.func28, Tryd.ntmps28
  go_wp2_with fail
  go_at_call 29
  refine HC10.out.mono ?_
  first | (rintro e W9 rfl rfl) | (rintro e W9 ⟨rfl, rfl⟩)
  go_wp2_with fail
  go_at_call 29
  refine HC11.out.mono ?_
  first | (rintro e W9 rfl rfl) | (rintro e W9 ⟨rfl, rfl⟩)
  go_wp2_with fail
  go_at_call 29
  refine HC0.out.mono ?_
  first | (rintro e W9 rfl rfl) | (rintro e W9 ⟨rfl, rfl⟩)
  go_wp2_with fail
  go_at_call 29
  refine HC1.out.mono ?_
  first | (rintro e W9 rfl rfl) | (rintro e W9 ⟨rfl, rfl⟩)
  go_wp2_with fail
  go_at_call 29
  refine HC2.out.mono ?_
  first | (rintro e W9 rfl rfl) | (rintro e W9 ⟨rfl, rfl⟩)
  go_wp2_with fail
  go_at_call 29
  refine HC3.out.mono ?_
  first | (rintro e W9 rfl rfl) | (rintro e W9 ⟨rfl, rfl⟩)
  go_wp2_with fail
  go_at_call 29
  refine HC4.out.mono ?_
  first | (rintro e W9 rfl rfl) | (rintro e W9 ⟨rfl, rfl⟩)
  go_wp2_with fail
  go_at_call 29
  refine HC5.out.mono ?_
  first | (rintro e W9 rfl rfl) | (rintro e W9 ⟨rfl, rfl⟩)
  go_wp2_with fail
  go_at_call 29
  refine HC6.out.mono ?_
  first | (rintro e W9 rfl rfl) | (rintro e W9 ⟨rfl, rfl⟩)
  go_wp2_with fail
  go_at_call 29
  refine HC7.out.mono ?_
  first | (rintro e W9 rfl rfl) | (rintro e W9 ⟨rfl, rfl⟩)
  go_wp2_with fail
  go_ret
  exact ⟨rfl, rfl⟩
set_option maxRecDepth 100000 in
set_option maxHeartbeats 8000000 in
theorem right_l8 (ad : Option Addr) (len cap : Nat) (n0 n1 n2 n3 n4 n5 n6 n7 n10 n11 : Nat) (w : World) (HC0 : Hid (Calls Tryd.prog 29 #[.slice ad len cap, .int .i64 (4 : Nat), .int .i64 (1 : Nat)] w fun e w' => e = .returned (.int .u64 (n0 : Nat)) ∧ w' = w)) (HC1 : Hid (Calls Tryd.prog 29 #[.slice ad len cap, .int .i64 (5 : Nat), .int .i64 (1 : Nat)] w fun e w' => e = .returned (.int .u64 (n1 : Nat)) ∧ w' = w)) (HC2 : Hid (Calls Tryd.prog 29 #[.slice ad len cap, .int .i64 (6 : Nat), .int .i64 (1 : Nat)] w fun e w' => e = .returned (.int .u64 (n2 : Nat)) ∧ w' = w)) (HC3 : Hid (Calls Tryd.prog 29 #[.slice ad len cap, .int .i64 (16 : Nat), .int .i64 (2 : Nat)] w fun e w' => e = .returned (.int .u64 (n3 : Nat)) ∧ w' = w)) (HC4 : Hid (Calls Tryd.prog 29 #[.slice ad len cap, .int .i64 (18 : Nat), .int .i64 (2 : Nat)] w fun e w' => e = .returned (.int .u64 (n4 : Nat)) ∧ w' = w)) (HC5 : Hid (Calls Tryd.prog 29 #[.slice ad len cap, .int .i64 (20 : Nat), .int .i64 (4 : Nat)] w fun e w' => e = .returned (.int .u64 (n5 : Nat)) ∧ w' = w)) (HC6 : Hid (Calls Tryd.prog 29 #[.slice ad len cap, .int .i64 (48 : Nat), .int .i64 (4 : Nat)] w fun e w' => e = .returned (.int .u64 (n6 : Nat)) ∧ w' = w)) (HC7 : Hid (Calls Tryd.prog 29 #[.slice ad len cap, .int .i64 (52 : Nat), .int .i64 (2 : Nat)] w fun e w' => e = .returned (.int .u64 (n7 : Nat)) ∧ w' = w)) (HC10 : Hid (Calls Tryd.prog 29 #[.slice ad len cap, .int .i64 (56 : Nat), .int .i64 (2 : Nat)] w fun e w' => e = .returned (.int .u64 (n10 : Nat)) ∧ w' = w)) (HC11 : Hid (Calls Tryd.prog 29 #[.slice ad len cap, .int .i64 (60 : Nat), .int .i64 (2 : Nat)] w fun e w' => e = .returned (.int .u64 (n11 : Nat)) ∧ w' = w)) (h0 : n0 = 2) (h1 : n1 = 1) (h2 : n2 = 1) (h3 : n3 = 2) (h4 : n4 = 62) (h5 : n5 = 1) (h6 : n6 = 0) (h7 : n7 = 64) (r1 : n10 = 0) (s1 : n11 = 0) (g1 : n10 ≤ 16) (g2 : n11 ≤ 32) : Calls Tryd.prog 28 #[.slice ad len cap] w fun e W' => e = .returned (.bool true) ∧ W' = w := by
  have e0 : ((n0 : Int) == 2) = true := by simp; omega
  have e1 : ((n1 : Int) == 1) = true := by simp; omega
  have e2 : ((n2 : Int) == 1) = true := by simp; omega
  have e3 : ((n3 : Int) == 2) = true := by simp; omega
  have e4 : ((n4 : Int) == 62) = true := by simp; omega
  have e5 : ((n5 : Int) == 1) = true := by simp; omega
  have e6 : ((n6 : Int) == 0) = true := by simp; omega
  have e7 : ((n7 : Int) == 64) = true := by simp; omega
  have c1 : decide ((0 : Int) < (n10 : Int)) = false := decide_eq_false (by omega)
  have d1 : decide ((0 : Int) < (n11 : Int)) = false := decide_eq_false (by omega)
  have t1 : decide ((n10 : Int) ≤ 16) = true := decide_eq_true (by omega)
  have t2 : decide ((n11 : Int) ≤ 32) = true := decide_eq_true (by omega)
  go_enter Tryd.func28, Tryd.ntmps28
  go_wp2_with fail
  go_at_call 29
  refine HC10.out.mono ?_
  first | (rintro e W9 rfl rfl) | (rintro e W9 ⟨rfl, rfl⟩)
  go_wp2_with fail
  go_at_call 29
  refine HC11.out.mono ?_
  first | (rintro e W9 rfl rfl) | (rintro e W9 ⟨rfl, rfl⟩)
  go_wp2_with fail
  go_at_call 29
  refine HC0.out.mono ?_
  first | (rintro e W9 rfl rfl) | (rintro e W9 ⟨rfl, rfl⟩)
  go_wp2_with fail
  go_at_call 29
  refine HC1.out.mono ?_
  first | (rintro e W9 rfl rfl) | (rintro e W9 ⟨rfl, rfl⟩)
  go_wp2_with fail
  go_at_call 29
  refine HC2.out.mono ?_
  first | (rintro e W9 rfl rfl) | (rintro e W9 ⟨rfl, rfl⟩)
  go_wp2_with fail
  go_at_call 29
  refine HC3.out.mono ?_
  first | (rintro e W9 rfl rfl) | (rintro e W9 ⟨rfl, rfl⟩)
  go_wp2_with fail
  go_at_call 29
  refine HC4.out.mono ?_
  first | (rintro e W9 rfl rfl) | (rintro e W9 ⟨rfl, rfl⟩)
  go_wp2_with fail
  go_at_call 29
  refine HC5.out.mono ?_
  first | (rintro e W9 rfl rfl) | (rintro e W9 ⟨rfl, rfl⟩)
  go_wp2_with fail
  go_at_call 29
  refine HC6.out.mono ?_
  first | (rintro e W9 rfl rfl) | (rintro e W9 ⟨rfl, rfl⟩)
  go_wp2_with fail
  go_at_call 29
  refine HC7.out.mono ?_
  first | (rintro e W9 rfl rfl) | (rintro e W9 ⟨rfl, rfl⟩)
  go_wp2_with fail
  go_ret
  exact ⟨rfl, rfl⟩
set_option maxRecDepth 100000 in
set_option maxHeartbeats 8000000 in
theorem right_l9 (ad : Option Addr) (len cap : Nat) (n0 n1 n2 n3 n4 n5 n6 n7 n9 n10 n11 : Nat) (w : World) (HC0 : Hid (Calls Tryd.prog 29 #[.slice ad len cap, .int .i64 (4 : Nat), .int .i64 (1 : Nat)] w fun e w' => e = .returned (.int .u64 (n0 : Nat)) ∧ w' = w)) (HC1 : Hid (Calls Tryd.prog 29 #[.slice ad len cap, .int .i64 (5 : Nat), .int .i64 (1 : Nat)] w fun e w' => e = .returned (.int .u64 (n1 : Nat)) ∧ w' = w)) (HC2 : Hid (Calls Tryd.prog 29 #[.slice ad len cap, .int .i64 (6 : Nat), .int .i64 (1 : Nat)] w fun e w' => e = .returned (.int .u64 (n2 : Nat)) ∧ w' = w)) (HC3 : Hid (Calls Tryd.prog 29 #[.slice ad len cap, .int .i64 (16 : Nat), .int .i64 (2 : Nat)] w fun e w' => e = .returned (.int .u64 (n3 : Nat)) ∧ w' = w)) (HC4 : Hid (Calls Tryd.prog 29 #[.slice ad len cap, .int .i64 (18 : Nat), .int .i64 (2 : Nat)] w fun e w' => e = .returned (.int .u64 (n4 : Nat)) ∧ w' = w)) (HC5 : Hid (Calls Tryd.prog 29 #[.slice ad len cap, .int .i64 (20 : Nat), .int .i64 (4 : Nat)] w fun e w' => e = .returned (.int .u64 (n5 : Nat)) ∧ w' = w)) (HC6 : Hid (Calls Tryd.prog 29 #[.slice ad len cap, .int .i64 (48 : Nat), .int .i64 (4 : Nat)] w fun e w' => e = .returned (.int .u64 (n6 : Nat)) ∧ w' = w)) (HC7 : Hid (Calls Tryd.prog 29 #[.slice ad len cap, .int .i64 (52 : Nat), .int .i64 (2 : Nat)] w fun e w' => e = .returned (.int .u64 (n7 : Nat)) ∧ w' = w)) (HC9 : Hid (Calls Tryd.prog 29 #[.slice ad len cap, .int .i64 (58 : Nat), .int .i64 (2 : Nat)] w fun e w' => e = .returned (.int .u64 (n9 : Nat)) ∧ w' = w)) (HC10 : Hid (Calls Tryd.prog 29 #[.slice ad len cap, .int .i64 (56 : Nat), .int .i64 (2 : Nat)] w fun e w' => e = .returned (.int .u64 (n10 : Nat)) ∧ w' = w)) (HC11 : Hid (Calls Tryd.prog 29 #[.slice ad len cap, .int .i64 (60 : Nat), .int .i64 (2 : Nat)] w fun e w' => e = .returned (.int .u64 (n11 : Nat)) ∧ w' = w)) (h0 : n0 = 2) (h1 : n1 = 1) (h2 : n2 = 1) (h3 : n3 = 2) (h4 : n4 = 62) (h5 : n5 = 1) (h6 : n6 = 0) (h7 : n7 = 64) (r1 : n10 = 0) (s1 : ¬ n11 = 0) (s2 : n9 = 64) (g1 : n10 ≤ 16) (g2 : n11 ≤ 32) : Calls Tryd.prog 28 #[.slice ad len cap] w fun e W' => e = .returned (.bool true) ∧ W' = w := by
  have e0 : ((n0 : Int) == 2) = true := by simp; omega
  have e1 : ((n1 : Int) == 1) = true := by simp; omega
  have e2 : ((n2 : Int) == 1) = true := by simp; omega
  have e3 : ((n3 : Int) == 2) = true := by simp; omega
  have e4 : ((n4 : Int) == 62) = true := by simp; omega
  have e5 : ((n5 : Int) == 1) = true := by simp; omega
  have e6 : ((n6 : Int) == 0) = true := by simp; omega
  have e7 : ((n7 : Int) == 64) = true := by simp; omega
  have c1 : decide ((0 : Int) < (n10 : Int)) = false := decide_eq_false (by omega)
  have d1 : decide ((0 : Int) < (n11 : Int)) = true := decide_eq_true (by omega)
  have d2 : ((n9 : Int) == 64) = true := by simp; omega
  have t1 : decide ((n10 : Int) ≤ 16) = true := decide_eq_true (by omega)
  have t2 : decide ((n11 : Int) ≤ 32) = true := decide_eq_true (by omega)
  go_enter Tryd.func28, Tryd.ntmps28
  go_wp2_with fail
  go_at_call 29
  refine HC10.out.mono ?_
  first | (rintro e W9 rfl rfl) | (rintro e W9 ⟨rfl, rfl⟩)
  go_wp2_with fail
  go_at_call 29
  refine HC11.out.mono ?_
  first | (rintro e W9 rfl rfl) | (rintro e W9 ⟨rfl, rfl⟩)
  go_wp2_with fail
  go_at_call 29
  refine HC0.out.mono ?_
  first | (rintro e W9 rfl rfl) | (rintro e W9 ⟨rfl, rfl⟩)
  go_wp2_with fail
  go_at_call 29
  refine HC1.out.mono ?_
  first | (rintro e W9 rfl rfl) | (rintro e W9 ⟨rfl, rfl⟩)
  go_wp2_with fail
  go_at_call 29
  refine HC2.out.mono ?_
  first | (rintro e W9 rfl rfl) | (rintro e W9 ⟨rfl, rfl⟩)
  go_wp2_with fail
  go_at_call 29
  refine HC3.out.mono ?_
  first | (rintro e W9 rfl rfl) | (rintro e W9 ⟨rfl, rfl⟩)
  go_wp2_with fail
  go_at_call 29
  refine HC4.out.mono ?_
  first | (rintro e W9 rfl rfl) | (rintro e W9 ⟨rfl, rfl⟩)
  go_wp2_with fail
  go_at_call 29
  refine HC5.out.mono ?_
  first | (rintro e W9 rfl rfl) | (rintro e W9 ⟨rfl, rfl⟩)
  go_wp2_with fail
  go_at_call 29
  refine HC6.out.mono ?_
  first | (rintro e W9 rfl rfl) | (rintro e W9 ⟨rfl, rfl⟩)
  go_wp2_with fail
  go_at_call 29
  refine HC7.out.mono ?_
  first | (rintro e W9 rfl rfl) | (rintro e W9 ⟨rfl, rfl⟩)
  go_wp2_with fail
  go_at_call 29
  refine HC9.out.mono ?_
  first | (rintro e W9 rfl rfl) | (rintro e W9 ⟨rfl, rfl⟩)
  go_wp2_with fail
  go_ret
  exact ⟨rfl, rfl⟩
set_option maxRecDepth 100000 in
set_option maxHeartbeats 8000000 in
theorem right_l10 (ad : Option Addr) (len cap : Nat) (n0 n1 n2 n3 n4 n5 n6 n7 n9 n10 n11 : Nat) (w : World) (HC0 : Hid (Calls Tryd.prog 29 #[.slice ad len cap, .int .i64 (4 : Nat), .int .i64 (1 : Nat)] w fun e w' => e = .returned (.int .u64 (n0 : Nat)) ∧ w' = w)) (HC1 : Hid (Calls Tryd.prog 29 #[.slice ad len cap, .int .i64 (5 : Nat), .int .i64 (1 : Nat)] w fun e w' => e = .returned (.int .u64 (n1 : Nat)) ∧ w' = w)) (HC2 : Hid (Calls Tryd.prog 29 #[.slice ad len cap, .int .i64 (6 : Nat), .int .i64 (1 : Nat)] w fun e w' => e = .returned (.int .u64 (n2 : Nat)) ∧ w' = w)) (HC3 : Hid (Calls Tryd.prog 29 #[.slice ad len cap, .int .i64 (16 : Nat), .int .i64 (2 : Nat)] w fun e w' => e = .returned (.int .u64 (n3 : Nat)) ∧ w' = w)) (HC4 : Hid (Calls Tryd.prog 29 #[.slice ad len cap, .int .i64 (18 : Nat), .int .i64 (2 : Nat)] w fun e w' => e = .returned (.int .u64 (n4 : Nat)) ∧ w' = w)) (HC5 : Hid (Calls Tryd.prog 29 #[.slice ad len cap, .int .i64 (20 : Nat), .int .i64 (4 : Nat)] w fun e w' => e = .returned (.int .u64 (n5 : Nat)) ∧ w' = w)) (HC6 : Hid (Calls Tryd.prog 29 #[.slice ad len cap, .int .i64 (48 : Nat), .int .i64 (4 : Nat)] w fun e w' => e = .returned (.int .u64 (n6 : Nat)) ∧ w' = w)) (HC7 : Hid (Calls Tryd.prog 29 #[.slice ad len cap, .int .i64 (52 : Nat), .int .i64 (2 : Nat)] w fun e w' => e = .returned (.int .u64 (n7 : Nat)) ∧ w' = w)) (HC9 : Hid (Calls Tryd.prog 29 #[.slice ad len cap, .int .i64 (58 : Nat), .int .i64 (2 : Nat)] w fun e w' => e = .returned (.int .u64 (n9 : Nat)) ∧ w' = w)) (HC10 : Hid (Calls Tryd.prog 29 #[.slice ad len cap, .int .i64 (56 : Nat), .int .i64 (2 : Nat)] w fun e w' => e = .returned (.int .u64 (n10 : Nat)) ∧ w' = w)) (HC11 : Hid (Calls Tryd.prog 29 #[.slice ad len cap, .int .i64 (60 : Nat), .int .i64 (2 : Nat)] w fun e w' => e = .returned (.int .u64 (n11 : Nat)) ∧ w' = w)) (h0 : n0 = 2) (h1 : n1 = 1) (h2 : n2 = 1) (h3 : n3 = 2) (h4 : n4 = 62) (h5 : n5 = 1) (h6 : n6 = 0) (h7 : n7 = 64) (r1 : n10 = 0) (s1 : ¬ n11 = 0) (s2 : n9 = 64) (g1 : n10 ≤ 16) (g2 : ¬ n11 ≤ 32) : Calls Tryd.prog 28 #[.slice ad len cap] w fun e W' => e = .returned (.bool false) ∧ W' = w := by
  have e0 : ((n0 : Int) == 2) = true := by simp; omega
  have e1 : ((n1 : Int) == 1) = true := by simp; omega
  have e2 : ((n2 : Int) == 1) = true := by simp; omega
  have e3 : ((n3 : Int) == 2) = true := by simp; omega
  have e4 : ((n4 : Int) == 62) = true := by simp; omega
  have e5 : ((n5 : Int) == 1) = true := by simp; omega
  have e6 : ((n6 : Int) == 0) = true := by simp; omega
  have e7 : ((n7 : Int) == 64) = true := by simp; omega
  have c1 : decide ((0 : Int) < (n10 : Int)) = false := decide_eq_false (by omega)
  have d1 : decide ((0 : Int) < (n11 : Int)) = true := decide_eq_true (by omega)
  have d2 : ((n9 : Int) == 64) = true := by simp; omega
  have t1 : decide ((n10 : Int) ≤ 16) = true := decide_eq_true (by omega)
  have t2 : decide ((n11 : Int) ≤ 32) = false := decide_eq_false (by omega)
  go_enter Tryd.func28, Tryd.ntmps28
  go_wp2_with fail
  go_at_call 29
  refine HC10.out.mono ?_
  first | (rintro e W9 rfl rfl) | (rintro e W9 ⟨rfl, rfl⟩)
  go_wp2_with fail
  go_at_call 29
  refine HC11.out.mono ?_
  first | (rintro e W9 rfl rfl) | (rintro e W9 ⟨rfl, rfl⟩)
  go_wp2_with fail
  go_at_call 29
  refine HC0.out.mono ?_
  first | (rintro e W9 rfl rfl) | (rintro e W9 ⟨rfl, rfl⟩)
  go_wp2_with fail
  go_at_call 29
  refine HC1.out.mono ?_
  first | (rintro e W9 rfl rfl) | (rintro e W9 ⟨rfl, rfl⟩)
  go_wp2_with fail
  go_at_call 29
  refine HC2.out.mono ?_
  first | (rintro e W9 rfl rfl) | (rintro e W9 ⟨rfl, rfl⟩)
  go_wp2_with fail
  go_at_call 29
  refine HC3.out.mono ?_
  first | (rintro e W9 rfl rfl) | (rintro e W9 ⟨rfl, rfl⟩)
  go_wp2_with fail
  go_at_call 29
  refine HC4.out.mono ?_
  first | (rintro e W9 rfl rfl) | (rintro e W9 ⟨rfl, rfl⟩)
  go_wp2_with fail
  go_at_call 29
  refine HC5.out.mono ?_
  first | (rintro e W9 rfl rfl) | (rintro e W9 ⟨rfl, rfl⟩)
  go_wp2_with fail
  go_at_call 29
  refine HC6.out.mono ?_
  first | (rintro e W9 rfl rfl) | (rintro e W9 ⟨rfl, rfl⟩)
  go_wp2_with fail
  go_at_call 29
  refine HC7.out.mono ?_
  first | (rintro e W9 rfl rfl) | (rintro e W9 ⟨rfl, rfl⟩)
  go_wp2_with fail
  go_at_call 29
  refine HC9.out.mono ?_
  first | (rintro e W9 rfl rfl) | (rintro e W9 ⟨rfl, rfl⟩)
  go_wp2_with fail
  go_ret
  exact ⟨rfl, rfl⟩
set_option maxRecDepth 100000 in
set_option maxHeartbeats 8000000 in
theorem right_l11 (ad : Option Addr) (len cap : Nat) (n0 n1 n2 n3 n4 n5 n6 n7 n9 n10 n11 : Nat) (w : World) (HC0 : Hid (Calls Tryd.prog 29 #[.slice ad len cap, .int .i64 (4 : Nat), .int .i64 (1 : Nat)] w fun e w' => e = .returned (.int .u64 (n0 : Nat)) ∧ w' = w)) (HC1 : Hid (Calls Tryd.prog 29 #[.slice ad len cap, .int .i64 (5 : Nat), .int .i64 (1 : Nat)] w fun e w' => e = .returned (.int .u64 (n1 : Nat)) ∧ w' = w)) (HC2 : Hid (Calls Tryd.prog 29 #[.slice ad len cap, .int .i64 (6 : Nat), .int .i64 (1 : Nat)] w fun e w' => e = .returned (.int .u64 (n2 : Nat)) ∧ w' = w)) (HC3 : Hid (Calls Tryd.prog 29 #[.slice ad len cap, .int .i64 (16 : Nat), .int .i64 (2 : Nat)] w fun e w' => e = .returned (.int .u64 (n3 : Nat)) ∧ w' = w)) (HC4 : Hid (Calls Tryd.prog 29 #[.slice ad len cap, .int .i64 (18 : Nat), .int .i64 (2 : Nat)] w fun e w' => e = .returned (.int .u64 (n4 : Nat)) ∧ w' = w)) (HC5 : Hid (Calls Tryd.prog 29 #[.slice ad len cap, .int .i64 (20 : Nat), .int .i64 (4 : Nat)] w fun e w' => e = .returned (.int .u64 (n5 : Nat)) ∧ w' = w)) (HC6 : Hid (Calls Tryd.prog 29 #[.slice ad len cap, .int .i64 (48 : Nat), .int .i64 (4 : Nat)] w fun e w' => e = .returned (.int .u64 (n6 : Nat)) ∧ w' = w)) (HC7 : Hid (Calls Tryd.prog 29 #[.slice ad len cap, .int .i64 (52 : Nat), .int .i64 (2 : Nat)] w fun e w' => e = .returned (.int .u64 (n7 : Nat)) ∧ w' = w)) (HC9 : Hid (Calls Tryd.prog 29 #[.slice ad len cap, .int .i64 (58 : Nat), .int .i64 (2 : Nat)] w fun e w' => e = .returned (.int .u64 (n9 : Nat)) ∧ w' = w)) (HC10 : Hid (Calls Tryd.prog 29 #[.slice ad len cap, .int .i64 (56 : Nat), .int .i64 (2 : Nat)] w fun e w' => e = .returned (.int .u64 (n10 : Nat)) ∧ w' = w)) (HC11 : Hid (Calls Tryd.prog 29 #[.slice ad len cap, .int .i64 (60 : Nat), .int .i64 (2 : Nat)] w fun e w' => e = .returned (.int .u64 (n11 : Nat)) ∧ w' = w)) (h0 : n0 = 2) (h1 : n1 = 1) (h2 : n2 = 1) (h3 : n3 = 2) (h4 : n4 = 62) (h5 : n5 = 1) (h6 : n6 = 0) (h7 : n7 = 64) (r1 : n10 = 0) (s1 : ¬ n11 = 0) (s2 : ¬ n9 = 64) : Calls Tryd.prog 28 #[.slice ad len cap] w fun e W' => e = .returned (.bool false) ∧ W' = w := by
  have e0 : ((n0 : Int) == 2) = true := by simp; omega
  have e1 : ((n1 : Int) == 1) = true := by simp; omega
  have e2 : ((n2 : Int) == 1) = true := by simp; omega
  have e3 : ((n3 : Int) == 2) = true := by simp; omega
  have e4 : ((n4 : Int) == 62) = true := by simp; omega
  have e5 : ((n5 : Int) == 1) = true := by simp; omega
  have e6 : ((n6 : Int) == 0) = true := by simp; omega
  have e7 : ((n7 : Int) == 64) = true := by simp; omega
  have c1 : decide ((0 : Int) < (n10 : Int)) = false := decide_eq_false (by omega)
  have d1 : decide ((0 : Int) < (n11 : Int)) = true := decide_eq_true (by omega)
  have d2 : ((n9 : Int) == 64) = false := by simp; omega
  go_enter Tryd.func28, Tryd.ntmps28
  go_wp2_with fail
  go_at_call 29
  refine HC10.out.mono ?_
  first | (rintro e W9 rfl rfl) | (rintro e W9 ⟨rfl, rfl⟩)
  go_wp2_with fail
  go_at_call 29
  refine HC11.out.mono ?_
  first | (rintro e W9 rfl rfl) | (rintro e W9 ⟨rfl, rfl⟩)
  go_wp2_with fail
  go_at_call 29
  refine HC0.out.mono ?_
  first | (rintro e W9 rfl rfl) | (rintro e W9 ⟨rfl, rfl⟩)
  go_wp2_with fail
  go_at_call 29
  refine HC1.out.mono ?_
  first | (rintro e W9 rfl rfl) | (rintro e W9 ⟨rfl, rfl⟩)
  go_wp2_with fail
  go_at_call 29
  refine HC2.out.mono ?_
  first | (rintro e W9 rfl rfl) | (rintro e W9 ⟨rfl, rfl⟩)
  go_wp2_with fail
  go_at_call 29
  refine HC3.out.mono ?_
  first | (rintro e W9 rfl rfl) | (rintro e W9 ⟨rfl, rfl⟩)
  go_wp2_with fail
  go_at_call 29
  refine HC4.out.mono ?_
  first | (rintro e W9 rfl rfl) | (rintro e W9 ⟨rfl, rfl⟩)
  go_wp2_with fail
  go_at_call 29
  refine HC5.out.mono ?_
  first | (rintro e W9 rfl rfl) | (rintro e W9 ⟨rfl, rfl⟩)
  go_wp2_with fail
  go_at_call 29
  refine HC6.out.mono ?_
  first | (rintro e W9 rfl rfl) | (rintro e W9 ⟨rfl, rfl⟩)
  go_wp2_with fail
  go_at_call 29
  refine HC7.out.mono ?_
  first | (rintro e W9 rfl rfl) | (rintro e W9 ⟨rfl, rfl⟩)
  go_wp2_with fail
  go_at_call 29
  refine HC9.out.mono ?_
  first | (rintro e W9 rfl rfl) | (rintro e W9 ⟨rfl, rfl⟩)
  go_wp2_with fail
  go_ret
  exact ⟨rfl, rfl⟩
set_option maxRecDepth 100000 in
set_option maxHeartbeats 8000000 in
theorem right_l12 (ad : Option Addr) (len cap : Nat) (n0 n1 n2 n3 n4 n5 n6 n7 n8 n10 n11 : Nat) (w : World) (HC0 : Hid (Calls Tryd.prog 29 #[.slice ad len cap, .int .i64 (4 : Nat), .int .i64 (1 : Nat)] w fun e w' => e = .returned (.int .u64 (n0 : Nat)) ∧ w' = w)) (HC1 : Hid (Calls Tryd.prog 29 #[.slice ad len cap, .int .i64 (5 : Nat), .int .i64 (1 : Nat)] w fun e w' => e = .returned (.int .u64 (n1 : Nat)) ∧ w' = w)) (HC2 : Hid (Calls Tryd.prog 29 #[.slice ad len cap, .int .i64 (6 : Nat), .int .i64 (1 : Nat)] w fun e w' => e = .returned (.int .u64 (n2 : Nat)) ∧ w' = w)) (HC3 : Hid (Calls Tryd.prog 29 #[.slice ad len cap, .int .i64 (16 : Nat), .int .i64 (2 : Nat)] w fun e w' => e = .returned (.int .u64 (n3 : Nat)) ∧ w' = w)) (HC4 : Hid (Calls Tryd.prog 29 #[.slice ad len cap, .int .i64 (18 : Nat), .int .i64 (2 : Nat)] w fun e w' => e = .returned (.int .u64 (n4 : Nat)) ∧ w' = w)) (HC5 : Hid (Calls Tryd.prog 29 #[.slice ad len cap, .int .i64 (20 : Nat), .int .i64 (4 : Nat)] w fun e w' => e = .returned (.int .u64 (n5 : Nat)) ∧ w' = w)) (HC6 : Hid (Calls Tryd.prog 29 #[.slice ad len cap, .int .i64 (48 : Nat), .int .i64 (4 : Nat)] w fun e w' => e = .returned (.int .u64 (n6 : Nat)) ∧ w' = w)) (HC7 : Hid (Calls Tryd.prog 29 #[.slice ad len cap, .int .i64 (52 : Nat), .int .i64 (2 : Nat)] w fun e w' => e = .returned (.int .u64 (n7 : Nat)) ∧ w' = w)) (HC8 : Hid (Calls Tryd.prog 29 #[.slice ad len cap, .int .i64 (54 : Nat), .int .i64 (2 : Nat)] w fun e w' => e = .returned (.int .u64 (n8 : Nat)) ∧ w' = w)) (HC10 : Hid (Calls Tryd.prog 29 #[.slice ad len cap, .int .i64 (56 : Nat), .int .i64 (2 : Nat)] w fun e w' => e = .returned (.int .u64 (n10 : Nat)) ∧ w' = w)) (HC11 : Hid (Calls Tryd.prog 29 #[.slice ad len cap, .int .i64 (60 : Nat), .int .i64 (2 : Nat)] w fun e w' => e = .returned (.int .u64 (n11 : Nat)) ∧ w' = w)) (h0 : n0 = 2) (h1 : n1 = 1) (h2 : n2 = 1) (h3 : n3 = 2) (h4 : n4 = 62) (h5 : n5 = 1) (h6 : n6 = 0) (h7 : n7 = 64) (r1 : ¬ n10 = 0) (r2 : n8 = 56) (s1 : n11 = 0) (g1 : n10 ≤ 16) (g2 : n11 ≤ 32) : Calls Tryd.prog 28 #[.slice ad len cap] w fun e W' => e = .returned (.bool true) ∧ W' = w := by
  have e0 : ((n0 : Int) == 2) = true := by simp; omega
  have e1 : ((n1 : Int) == 1) = true := by simp; omega
  have e2 : ((n2 : Int) == 1) = true := by simp; omega
  have e3 : ((n3 : Int) == 2) = true := by simp; omega
  have e4 : ((n4 : Int) == 62) = true := by simp; omega
  have e5 : ((n5 : Int) == 1) = true := by simp; omega
  have e6 : ((n6 : Int) == 0) = true := by simp; omega
  have e7 : ((n7 : Int) == 64) = true := by simp; omega
  have c1 : decide ((0 : Int) < (n10 : Int)) = true := decide_eq_true (by omega)
  have c2 : ((n8 : Int) == 56) = true := by simp; omega
  have d1 : decide ((0 : Int) < (n11 : Int)) = false := decide_eq_false (by omega)
  have t1 : decide ((n10 : Int) ≤ 16) = true := decide_eq_true (by omega)
  have t2 : decide ((n11 : Int) ≤ 32) = true := decide_eq_true (by omega)
  go_enter Tryd.func28, Tryd.ntmps28
  go_wp2_with fail
  go_at_call 29
  refine HC10.out.mono ?_
  first | (rintro e W9 rfl rfl) | (rintro e W9 ⟨rfl, rfl⟩)
  go_wp2_with fail
  go_at_call 29
  refine HC11.out.mono ?_
  first | (rintro e W9 rfl rfl) | (rintro e W9 ⟨rfl, rfl⟩)
  go_wp2_with fail
  go_at_call 29
  refine HC0.out.mono ?_
  first | (rintro e W9 rfl rfl) | (rintro e W9 ⟨rfl, rfl⟩)
  go_wp2_with fail
  go_at_call 29
  refine HC1.out.mono ?_
  first | (rintro e W9 rfl rfl) | (rintro e W9 ⟨rfl, rfl⟩)
  go_wp2_with fail
  go_at_call 29
  refine HC2.out.mono ?_
  first | (rintro e W9 rfl rfl) | (rintro e W9 ⟨rfl, rfl⟩)
  go_wp2_with fail
  go_at_call 29
  refine HC3.out.mono ?_
  first | (rintro e W9 rfl rfl) | (rintro e W9 ⟨rfl, rfl⟩)
  go_wp2_with fail
  go_at_call 29
  refine HC4.out.mono ?_
  first | (rintro e W9 rfl rfl) | (rintro e W9 ⟨rfl, rfl⟩)
  go_wp2_with fail
  go_at_call 29
  refine HC5.out.mono ?_
  first | (rintro e W9 rfl rfl) | (rintro e W9 ⟨rfl, rfl⟩)
  go_wp2_with fail
  go_at_call 29
  refine HC6.out.mono ?_
  first | (rintro e W9 rfl rfl) | (rintro e W9 ⟨rfl, rfl⟩)
  go_wp2_with fail
  go_at_call 29
  refine HC7.out.mono ?_
  first | (rintro e W9 rfl rfl) | (rintro e W9 ⟨rfl, rfl⟩)
  go_wp2_with fail
  go_at_call 29
  refine HC8.out.mono ?_
  first | (rintro e W9 rfl rfl) | (rintro e W9 ⟨rfl, rfl⟩)
  go_wp2_with fail
  go_ret
  exact ⟨rfl, rfl⟩
set_option maxRecDepth 100000 in
set_option maxHeartbeats 8000000 in
theorem right_l13 (ad : Option Addr) (len cap : Nat) (n0 n1 n2 n3 n4 n5 n6 n7 n8 n10 n11 : Nat) (w : World) (HC0 : Hid (Calls Tryd.prog 29 #[.slice ad len cap, .int .i64 (4 : Nat), .int .i64 (1 : Nat)] w fun e w' => e = .returned (.int .u64 (n0 : Nat)) ∧ w' = w)) (HC1 : Hid (Calls Tryd.prog 29 #[.slice ad len cap, .int .i64 (5 : Nat), .int .i64 (1 : Nat)] w fun e w' => e = .returned (.int .u64 (n1 : Nat)) ∧ w' = w)) (HC2 : Hid (Calls Tryd.prog 29 #[.slice ad len cap, .int .i64 (6 : Nat), .int .i64 (1 : Nat)] w fun e w' => e = .returned (.int .u64 (n2 : Nat)) ∧ w' = w)) (HC3 : Hid (Calls Tryd.prog 29 #[.slice ad len cap, .int .i64 (16 : Nat), .int .i64 (2 : Nat)] w fun e w' => e = .returned (.int .u64 (n3 : Nat)) ∧ w' = w)) (HC4 : Hid (Calls Tryd.prog 29 #[.slice ad len cap, .int .i64 (18 : Nat), .int .i64 (2 : Nat)] w fun e w' => e = .returned (.int .u64 (n4 : Nat)) ∧ w' = w)) (HC5 : Hid (Calls Tryd.prog 29 #[.slice ad len cap, .int .i64 (20 : Nat), .int .i64 (4 : Nat)] w fun e w' => e = .returned (.int .u64 (n5 : Nat)) ∧ w' = w)) (HC6 : Hid (Calls Tryd.prog 29 #[.slice ad len cap, .int .i64 (48 : Nat), .int .i64 (4 : Nat)] w fun e w' => e = .returned (.int .u64 (n6 : Nat)) ∧ w' = w)) (HC7 : Hid (Calls Tryd.prog 29 #[.slice ad len cap, .int .i64 (52 : Nat), .int .i64 (2 : Nat)] w fun e w' => e = .returned (.int .u64 (n7 : Nat)) ∧ w' = w)) (HC8 : Hid (Calls Tryd.prog 29 #[.slice ad len cap, .int .i64 (54 : Nat), .int .i64 (2 : Nat)] w fun e w' => e = .returned (.int .u64 (n8 : Nat)) ∧ w' = w)) (HC10 : Hid (Calls Tryd.prog 29 #[.slice ad len cap, .int .i64 (56 : Nat), .int .i64 (2 : Nat)] w fun e w' => e = .returned (.int .u64 (n10 : Nat)) ∧ w' = w)) (HC11 : Hid (Calls Tryd.prog 29 #[.slice ad len cap, .int .i64 (60 : Nat), .int .i64 (2 : Nat)] w fun e w' => e = .returned (.int .u64 (n11 : Nat)) ∧ w' = w)) (h0 : n0 = 2) (h1 : n1 = 1) (h2 : n2 = 1) (h3 : n3 = 2) (h4 : n4 = 62) (h5 : n5 = 1) (h6 : n6 = 0) (h7 : n7 = 64) (r1 : ¬ n10 = 0) (r2 : n8 = 56) (s1 : n11 = 0) (g1 : ¬ n10 ≤ 16) : Calls Tryd.prog 28 #[.slice ad len cap] w fun e W' => e = .returned (.bool false) ∧ W' = w := by
  have e0 : ((n0 : Int) == 2) = true := by simp; omega
  have e1 : ((n1 : Int) == 1) = true := by simp; omega
  have e2 : ((n2 : Int) == 1) = true := by simp; omega
  have e3 : ((n3 : Int) == 2) = true := by simp; omega
  have e4 : ((n4 : Int) == 62) = true := by simp; omega
  have e5 : ((n5 : Int) == 1) = true := by simp; omega
  have e6 : ((n6 : Int) == 0) = true := by simp; omega
  have e7 : ((n7 : Int) == 64) = true := by simp; omega
  have c1 : decide ((0 : Int) < (n10 : Int)) = true := decide_eq_true (by omega)
  have c2 : ((n8 : Int) == 56) = true := by simp; omega
  have d1 : decide ((0 : Int) < (n11 : Int)) = false := decide_eq_false (by omega)
  have t1 : decide ((n10 : Int) ≤ 16) = false := decide_eq_false (by omega)
  go_enter Tryd.func28, Tryd.ntmps28
  go_wp2_with fail
  go_at_call 29
  refine HC10.out.mono ?_
  first | (rintro e W9 rfl rfl) | (rintro e W9 ⟨rfl, rfl⟩)
  go_wp2_with fail
  go_at_call 29
  refine HC11.out.mono ?_
  first | (rintro e W9 rfl rfl) | (rintro e W9 ⟨rfl, rfl⟩)
  go_wp2_with fail
  go_at_call 29
  refine HC0.out.mono ?_
  first | (rintro e W9 rfl rfl) | (rintro e W9 ⟨rfl, rfl⟩)
  go_wp2_with fail
  go_at_call 29
  refine HC1.out.mono ?_
  first | (rintro e W9 rfl rfl) | (rintro e W9 ⟨rfl, rfl⟩)
  go_wp2_with fail
  go_at_call 29
  refine HC2.out.mono ?_
  first | (rintro e W9 rfl rfl) | (rintro e W9 ⟨rfl, rfl⟩)
  go_wp2_with fail
  go_at_call 29
  refine HC3.out.mono ?_
  first | (rintro e W9 rfl rfl) | (rintro e W9 ⟨rfl, rfl⟩)
  go_wp2_with fail
  go_at_call 29
  refine HC4.out.mono ?_
  first | (rintro e W9 rfl rfl) | (rintro e W9 ⟨rfl, rfl⟩)
  go_wp2_with fail
  go_at_call 29
  refine HC5.out.mono ?_
  first | (rintro e W9 rfl rfl) | (rintro e W9 ⟨rfl, rfl⟩)
  go_wp2_with fail
  go_at_call 29
  refine HC6.out.mono ?_
  first | (rintro e W9 rfl rfl) | (rintro e W9 ⟨rfl, rfl⟩)
  go_wp2_with fail
  go_at_call 29
  refine HC7.out.mono ?_
  first | (rintro e W9 rfl rfl) | (rintro e W9 ⟨rfl, rfl⟩)
  go_wp2_with fail
  go_at_call 29
  refine HC8.out.mono ?_
  first | (rintro e W9 rfl rfl) | (rintro e W9 ⟨rfl, rfl⟩)
  go_wp2_with fail
  go_ret
  exact ⟨rfl, rfl⟩
set_option maxRecDepth 100000 in
set_option maxHeartbeats 8000000 in
theorem right_l14 (ad : Option Addr) (len cap : Nat) (n0 n1 n2 n3 n4 n5 n6 n7 n8 n9 n10 n11 : Nat) (w : World) (HC0 : Hid (Calls Tryd.prog 29 #[.slice ad len cap, .int .i64 (4 : Nat), .int .i64 (1 : Nat)] w fun e w' => e = .returned (.int .u64 (n0 : Nat)) ∧ w' = w)) (HC1 : Hid (Calls Tryd.prog 29 #[.slice ad len cap, .int .i64 (5 : Nat), .int .i64 (1 : Nat)] w fun e w' => e = .returned (.int .u64 (n1 : Nat)) ∧ w' = w)) (HC2 : Hid (Calls Tryd.prog 29 #[.slice ad len cap, .int .i64 (6 : Nat), .int .i64 (1 : Nat)] w fun e w' => e = .returned (.int .u64 (n2 : Nat)) ∧ w' = w)) (HC3 : Hid (Calls Tryd.prog 29 #[.slice ad len cap, .int .i64 (16 : Nat), .int .i64 (2 : Nat)] w fun e w' => e = .returned (.int .u64 (n3 : Nat)) ∧ w' = w)) (HC4 : Hid (Calls Tryd.prog 29 #[.slice ad len cap, .int .i64 (18 : Nat), .int .i64 (2 : Nat)] w fun e w' => e = .returned (.int .u64 (n4 : Nat)) ∧ w' = w)) (HC5 : Hid (Calls Tryd.prog 29 #[.slice ad len cap, .int .i64 (20 : Nat), .int .i64 (4 : Nat)] w fun e w' => e = .returned (.int .u64 (n5 : Nat)) ∧ w' = w)) (HC6 : Hid (Calls Tryd.prog 29 #[.slice ad len cap, .int .i64 (48 : Nat), .int .i64 (4 : Nat)] w fun e w' => e = .returned (.int .u64 (n6 : Nat)) ∧ w' = w)) (HC7 : Hid (Calls Tryd.prog 29 #[.slice ad len cap, .int .i64 (52 : Nat), .int .i64 (2 : Nat)] w fun e w' => e = .returned (.int .u64 (n7 : Nat)) ∧ w' = w)) (HC8 : Hid (Calls Tryd.prog 29 #[.slice ad len cap, .int .i64 (54 : Nat), .int .i64 (2 : Nat)] w fun e w' => e = .returned (.int .u64 (n8 : Nat)) ∧ w' = w)) (HC9 : Hid (Calls Tryd.prog 29 #[.slice ad len cap, .int .i64 (58 : Nat), .int .i64 (2 : Nat)] w fun e w' => e = .returned (.int .u64 (n9 : Nat)) ∧ w' = w)) (HC10 : Hid (Calls Tryd.prog 29 #[.slice ad len cap, .int .i64 (56 : Nat), .int .i64 (2 : Nat)] w fun e w' => e = .returned (.int .u64 (n10 : Nat)) ∧ w' = w)) (HC11 : Hid (Calls Tryd.prog 29 #[.slice ad len cap, .int .i64 (60 : Nat), .int .i64 (2 : Nat)] w fun e w' => e = .returned (.int .u64 (n11 : Nat)) ∧ w' = w)) (h0 : n0 = 2) (h1 : n1 = 1) (h2 : n2 = 1) (h3 : n3 = 2) (h4 : n4 = 62) (h5 : n5 = 1) (h6 : n6 = 0) (h7 : n7 = 64) (r1 : ¬ n10 = 0) (r2 : n8 = 56) (s1 : ¬ n11 = 0) (s2 : n9 = 64) (g1 : n10 ≤ 16) (g2 : n11 ≤ 32) : Calls Tryd.prog 28 #[.slice ad len cap] w fun e W' => e = .returned (.bool true) ∧ W' = w := by
  have e0 : ((n0 : Int) == 2) = true := by simp; omega
  have e1 : ((n1 : Int) == 1) = true := by simp; omega
  have e2 : ((n2 : Int) == 1) = true := by simp; omega
  have e3 : ((n3 : Int) == 2) = true := by simp; omega
  have e4 : ((n4 : Int) == 62) = true := by simp; omega
  have e5 : ((n5 : Int) == 1) = true := by simp; omega
  have e6 : ((n6 : Int) == 0) = true := by simp; omega
  have e7 : ((n7 : Int) == 64) = true := by simp; omega
  have c1 : decide ((0 : Int) < (n10 : Int)) = true := decide_eq_true (by omega)
  have c2 : ((n8 : Int) == 56) = true := by simp; omega
  have d1 : decide ((0 : Int) < (n11 : Int)) = true := decide_eq_true (by omega)
  have d2 : ((n9 : Int) == 64) = true := by simp; omega
  have t1 : decide ((n10 : Int) ≤ 16) = true := decide_eq_true (by omega)
  have t2 : decide ((n11 : Int) ≤ 32) = true := decide_eq_true (by omega)
  go_enter Tryd.func28, Tryd.ntmps28
  go_wp2_with fail
  go_at_call 29
  refine HC10.out.mono ?_
  first | (rintro e W9 rfl rfl) | (rintro e W9 ⟨rfl, rfl⟩)
  go_wp2_with fail
  go_at_call 29
  refine HC11.out.mono ?_
  first | (rintro e W9 rfl rfl) | (rintro e W9 ⟨rfl, rfl⟩)
  go_wp2_with fail
  go_at_call 29
  refine HC0.out.mono ?_
  first | (rintro e W9 rfl rfl) | (rintro e W9 ⟨rfl, rfl⟩)
  go_wp2_with fail
  go_at_call 29
  refine HC1.out.mono ?_
  first | (rintro e W9 rfl rfl) | (rintro e W9 ⟨rfl, rfl⟩)
  go_wp2_with fail
  go_at_call 29
  refine HC2.out.mono ?_
  first | (rintro e W9 rfl rfl) | (rintro e W9 ⟨rfl, rfl⟩)
  go_wp2_with fail
  go_at_call 29
  refine HC3.out.mono ?_
  first | (rintro e W9 rfl rfl) | (rintro e W9 ⟨rfl, rfl⟩)
  go_wp2_with fail
  go_at_call 29
  refine HC4.out.mono ?_
  first | (rintro e W9 rfl rfl) | (rintro e W9 ⟨rfl, rfl⟩)
  go_wp2_with fail
  go_at_call 29
  refine HC5.out.mono ?_
  first | (rintro e W9 rfl rfl) | (rintro e W9 ⟨rfl, rfl⟩)
  go_wp2_with fail
  go_at_call 29
  refine HC6.out.mono ?_
  first | (rintro e W9 rfl rfl) | (rintro e W9 ⟨rfl, rfl⟩)
  go_wp2_with fail
  go_at_call 29
  refine HC7.out.mono ?_
  first | (rintro e W9 rfl rfl) | (rintro e W9 ⟨rfl, rfl⟩)
  go_wp2_with fail
  go_at_call 29
  refine HC8.out.mono ?_
  first | (rintro e W9 rfl rfl) | (rintro e W9 ⟨rfl, rfl⟩)
  go_wp2_with fail
  go_at_call 29
  refine HC9.out.mono ?_
  first | (rintro e W9 rfl rfl) | (rintro e W9 ⟨rfl, rfl⟩)
  go_wp2_with fail
  go_ret
  exact ⟨rfl, rfl⟩
set_option maxRecDepth 100000 in
set_option maxHeartbeats 8000000 in
theorem right_l15 (ad : Option Addr) (len cap : Nat) (n0 n1 n2 n3 n4 n5 n6 n7 n8 n9 n10 n11 : Nat) (w : World) (HC0 : Hid (Calls Tryd.prog 29 #[.slice ad len cap, .int .i64 (4 : Nat), .int .i64 (1 : Nat)] w fun e w' => e = .returned (.int .u64 (n0 : Nat)) ∧ w' = w)) (HC1 : Hid (Calls Tryd.prog 29 #[.slice ad len cap, .int .i64 (5 : Nat), .int .i64 (1 : Nat)] w fun e w' => e = .returned (.int .u64 (n1 : Nat)) ∧ w' = w)) (HC2 : Hid (Calls Tryd.prog 29 #[.slice ad len cap, .int .i64 (6 : Nat), .int .i64 (1 : Nat)] w fun e w' => e = .returned (.int .u64 (n2 : Nat)) ∧ w' = w)) (HC3 : Hid (Calls Tryd.prog 29 #[.slice ad len cap, .int .i64 (16 : Nat), .int .i64 (2 : Nat)] w fun e w' => e = .returned (.int .u64 (n3 : Nat)) ∧ w' = w)) (HC4 : Hid (Calls Tryd.prog 29 #[.slice ad len cap, .int .i64 (18 : Nat), .int .i64 (2 : Nat)] w fun e w' => e = .returned (.int .u64 (n4 : Nat)) ∧ w' = w)) (HC5 : Hid (Calls Tryd.prog 29 #[.slice ad len cap, .int .i64 (20 : Nat), .int .i64 (4 : Nat)] w fun e w' => e = .returned (.int .u64 (n5 : Nat)) ∧ w' = w)) (HC6 : Hid (Calls Tryd.prog 29 #[.slice ad len cap, .int .i64 (48 : Nat), .int .i64 (4 : Nat)] w fun e w' => e = .returned (.int .u64 (n6 : Nat)) ∧ w' = w)) (HC7 : Hid (Calls Tryd.prog 29 #[.slice ad len cap, .int .i64 (52 : Nat), .int .i64 (2 : Nat)] w fun e w' => e = .returned (.int .u64 (n7 : Nat)) ∧ w' = w)) (HC8 : Hid (Calls Tryd.prog 29 #[.slice ad len cap, .int .i64 (54 : Nat), .int .i64 (2 : Nat)] w fun e w' => e = .returned (.int .u64 (n8 : Nat)) ∧ w' = w)) (HC9 : Hid (Calls Tryd.prog 29 #[.slice ad len cap, .int .i64 (58 : Nat), .int .i64 (2 : Nat)] w fun e w' => e = .returned (.int .u64 (n9 : Nat)) ∧ w' = w)) (HC10 : Hid (Calls Tryd.prog 29 #[.slice ad len cap, .int .i64 (56 : Nat), .int .i64 (2 : Nat)] w fun e w' => e = .returned (.int .u64 (n10 : Nat)) ∧ w' = w)) (HC11 : Hid (Calls Tryd.prog 29 #[.slice ad len cap, .int .i64 (60 : Nat), .int .i64 (2 : Nat)] w fun e w' => e = .returned (.int .u64 (n11 : Nat)) ∧ w' = w)) (h0 : n0 = 2) (h1 : n1 = 1) (h2 : n2 = 1) (h3 : n3 = 2) (h4 : n4 = 62) (h5 : n5 = 1) (h6 : n6 = 0) (h7 : n7 = 64) (r1 : ¬ n10 = 0) (r2 : n8 = 56) (s1 : ¬ n11 = 0) (s2 : n9 = 64) (g1 : n10 ≤ 16) (g2 : ¬ n11 ≤ 32) : Calls Tryd.prog 28 #[.slice ad len cap] w fun e W' => e = .returned (.bool false) ∧ W' = w := by
  have e0 : ((n0 : Int) == 2) = true := by simp; omega
  have e1 : ((n1 : Int) == 1) = true := by simp; omega
  have e2 : ((n2 : Int) == 1) = true := by simp; omega
  have e3 : ((n3 : Int) == 2) = true := by simp; omega
  have e4 : ((n4 : Int) == 62) = true := by simp; omega
  have e5 : ((n5 : Int) == 1) = true := by simp; omega
  have e6 : ((n6 : Int) == 0) = true := by simp; omega
  have e7 : ((n7 : Int) == 64) = true := by simp; omega
  have c1 : decide ((0 : Int) < (n10 : Int)) = true := decide_eq_true (by omega)
  have c2 : ((n8 : Int) == 56) = true := by simp; omega
  have d1 : decide ((0 : Int) < (n11 : Int)) = true := decide_eq_true (by omega)
  have d2 : ((n9 : Int) == 64) = true := by simp; omega
  have t1 : decide ((n10 : Int) ≤ 16) = true := decide_eq_true (by omega)
  have t2 : decide ((n11 : Int) ≤ 32) = false := decide_eq_false (by omega)
  go_enter Tryd.func28, Tryd.ntmps28
  go_wp2_with fail
  go_at_call 29
  refine HC10.out.mono ?_
  first | (rintro e W9 rfl rfl) | (rintro e W9 ⟨rfl, rfl⟩)
  go_wp2_with fail
  go_at_call 29
  refine HC11.out.mono ?_
  first | (rintro e W9 rfl rfl) | (rintro e W9 ⟨rfl, rfl⟩)
  go_wp2_with fail
  go_at_call 29
  refine HC0.out.mono ?_
  first | (rintro e W9 rfl rfl) | (rintro e W9 ⟨rfl, rfl⟩)
  go_wp2_with fail
  go_at_call 29
  refine HC1.out.mono ?_
  first | (rintro e W9 rfl rfl) | (rintro e W9 ⟨rfl, rfl⟩)
  go_wp2_with fail
  go_at_call 29
  refine HC2.out.mono ?_
  first | (rintro e W9 rfl rfl) | (rintro e W9 ⟨rfl, rfl⟩)
  go_wp2_with fail
  go_at_call 29
  refine HC3.out.mono ?_
  first | (rintro e W9 rfl rfl) | (rintro e W9 ⟨rfl, rfl⟩)
  go_wp2_with fail
  go_at_call 29
  refine HC4.out.mono ?_
  first | (rintro e W9 rfl rfl) | (rintro e W9 ⟨rfl, rfl⟩)
  go_wp2_with fail
  go_at_call 29
  refine HC5.out.mono ?_
  first | (rintro e W9 rfl rfl) | (rintro e W9 ⟨rfl, rfl⟩)
  go_wp2_with fail
  go_at_call 29
  refine HC6.out.mono ?_
  first | (rintro e W9 rfl rfl) | (rintro e W9 ⟨rfl, rfl⟩)
  go_wp2_with fail
  go_at_call 29
  refine HC7.out.mono ?_
  first | (rintro e W9 rfl rfl) | (rintro e W9 ⟨rfl, rfl⟩)
  go_wp2_with fail
  go_at_call 29
  refine HC8.out.mono ?_
  first | (rintro e W9 rfl rfl) | (rintro e W9 ⟨rfl, rfl⟩)
  go_wp2_with fail
  go_at_call 29
  refine HC9.out.mono ?_
  first | (rintro e W9 rfl rfl) | (rintro e W9 ⟨rfl, rfl⟩)
  go_wp2_with fail
  go_ret
  exact ⟨rfl, rfl⟩
set_option maxRecDepth 100000 in
set_option maxHeartbeats 8000000 in
theorem right_l16 (ad : Option Addr) (len cap : Nat) (n0 n1 n2 n3 n4 n5 n6 n7 n8 n9 n10 n11 : Nat) (w : World) (HC0 : Hid (Calls Tryd.prog 29 #[.slice ad len cap, .int .i64 (4 : Nat), .int .i64 (1 : Nat)] w fun e w' => e = .returned (.int .u64 (n0 : Nat)) ∧ w' = w)) (HC1 : Hid (Calls Tryd.prog 29 #[.slice ad len cap, .int .i64 (5 : Nat), .int .i64 (1 : Nat)] w fun e w' => e = .returned (.int .u64 (n1 : Nat)) ∧ w' = w)) (HC2 : Hid (Calls Tryd.prog 29 #[.slice ad len cap, .int .i64 (6 : Nat), .int .i64 (1 : Nat)] w fun e w' => e = .returned (.int .u64 (n2 : Nat)) ∧ w' = w)) (HC3 : Hid (Calls Tryd.prog 29 #[.slice ad len cap, .int .i64 (16 : Nat), .int .i64 (2 : Nat)] w fun e w' => e = .returned (.int .u64 (n3 : Nat)) ∧ w' = w)) (HC4 : Hid (Calls Tryd.prog 29 #[.slice ad len cap, .int .i64 (18 : Nat), .int .i64 (2 : Nat)] w fun e w' => e = .returned (.int .u64 (n4 : Nat)) ∧ w' = w)) (HC5 : Hid (Calls Tryd.prog 29 #[.slice ad len cap, .int .i64 (20 : Nat), .int .i64 (4 : Nat)] w fun e w' => e = .returned (.int .u64 (n5 : Nat)) ∧ w' = w)) (HC6 : Hid (Calls Tryd.prog 29 #[.slice ad len cap, .int .i64 (48 : Nat), .int .i64 (4 : Nat)] w fun e w' => e = .returned (.int .u64 (n6 : Nat)) ∧ w' = w)) (HC7 : Hid (Calls Tryd.prog 29 #[.slice ad len cap, .int .i64 (52 : Nat), .int .i64 (2 : Nat)] w fun e w' => e = .returned (.int .u64 (n7 : Nat)) ∧ w' = w)) (HC8 : Hid (Calls Tryd.prog 29 #[.slice ad len cap, .int .i64 (54 : Nat), .int .i64 (2 : Nat)] w fun e w' => e = .returned (.int .u64 (n8 : Nat)) ∧ w' = w)) (HC9 : Hid (Calls Tryd.prog 29 #[.slice ad len cap, .int .i64 (58 : Nat), .int .i64 (2 : Nat)] w fun e w' => e = .returned (.int .u64 (n9 : Nat)) ∧ w' = w)) (HC10 : Hid (Calls Tryd.prog 29 #[.slice ad len cap, .int .i64 (56 : Nat), .int .i64 (2 : Nat)] w fun e w' => e = .returned (.int .u64 (n10 : Nat)) ∧ w' = w)) (HC11 : Hid (Calls Tryd.prog 29 #[.slice ad len cap, .int .i64 (60 : Nat), .int .i64 (2 : Nat)] w fun e w' => e = .returned (.int .u64 (n11 : Nat)) ∧ w' = w)) (h0 : n0 = 2) (h1 : n1 = 1) (h2 : n2 = 1) (h3 : n3 = 2) (h4 : n4 = 62) (h5 : n5 = 1) (h6 : n6 = 0) (h7 : n7 = 64) (r1 : ¬ n10 = 0) (r2 : n8 = 56) (s1 : ¬ n11 = 0) (s2 : n9 = 64) (g1 : ¬ n10 ≤ 16) : Calls Tryd.prog 28 #[.slice ad len cap] w fun e W' => e = .returned (.bool false) ∧ W' = w := by
  have e0 : ((n0 : Int) == 2) = true := by simp; omega
  have e1 : ((n1 : Int) == 1) = true := by simp; omega
  have e2 : ((n2 : Int) == 1) = true := by simp; omega
  have e3 : ((n3 : Int) == 2) = true := by simp; omega
  have e4 : ((n4 : Int) == 62) = true := by simp; omega
  have e5 : ((n5 : Int) == 1) = true := by simp; omega
  have e6 : ((n6 : Int) == 0) = true := by simp; omega
  have e7 : ((n7 : Int) == 64) = true := by simp; omega
  have c1 : decide ((0 : Int) < (n10 : Int)) = true := decide_eq_true (by omega)
  have c2 : ((n8 : Int) == 56) = true := by simp; omega
  have d1 : decide ((0 : Int) < (n11 : Int)) = true := decide_eq_true (by omega)
  have d2 : ((n9 : Int) == 64) = true := by simp; omega
  have t1 : decide ((n10 : Int) ≤ 16) = false := decide_eq_false (by omega)
  go_enter Tryd.func28, Tryd.ntmps28
  go_wp2_with fail
  go_at_call 29
  refine HC10.out.mono ?_
  first | (rintro e W9 rfl rfl) | (rintro e W9 ⟨rfl, rfl⟩)
  go_wp2_with fail
  go_at_call 29
  refine HC11.out.mono ?_
  first | (rintro e W9 rfl rfl) | (rintro e W9 ⟨rfl, rfl⟩)
  go_wp2_with fail
  go_at_call 29
  refine HC0.out.mono ?_
  first | (rintro e W9 rfl rfl) | (rintro e W9 ⟨rfl, rfl⟩)
  go_wp2_with fail
  go_at_call 29
  refine HC1.out.mono ?_
  first | (rintro e W9 rfl rfl) | (rintro e W9 ⟨rfl, rfl⟩)
  go_wp2_with fail
  go_at_call 29
  refine HC2.out.mono ?_
  first | (rintro e W9 rfl rfl) | (rintro e W9 ⟨rfl, rfl⟩)
  go_wp2_with fail
  go_at_call 29
  refine HC3.out.mono ?_
  first | (rintro e W9 rfl rfl) | (rintro e W9 ⟨rfl, rfl⟩)
  go_wp2_with fail
  go_at_call 29
  refine HC4.out.mono ?_
  first | (rintro e W9 rfl rfl) | (rintro e W9 ⟨rfl, rfl⟩)
  go_wp2_with fail
  go_at_call 29
  refine HC5.out.mono ?_
  first | (rintro e W9 rfl rfl) | (rintro e W9 ⟨rfl, rfl⟩)
  go_wp2_with fail
  go_at_call 29
  refine HC6.out.mono ?_
  first | (rintro e W9 rfl rfl) | (rintro e W9 ⟨rfl, rfl⟩)
  go_wp2_with fail
  go_at_call 29
  refine HC7.out.mono ?_
  first | (rintro e W9 rfl rfl) | (rintro e W9 ⟨rfl, rfl⟩)
  go_wp2_with fail
  go_at_call 29
  refine HC8.out.mono ?_
  first | (rintro e W9 rfl rfl) | (rintro e W9 ⟨rfl, rfl⟩)
  go_wp2_with fail
  go_at_call 29
  refine HC9.out.mono ?_
  first | (rintro e W9 rfl rfl) | (rintro e W9 ⟨rfl, rfl⟩)
  go_wp2_with fail
  go_ret
  exact ⟨rfl, rfl⟩
set_option maxRecDepth 100000 in
set_option maxHeartbeats 8000000 in
theorem right_l17 (ad : Option Addr) (len cap : Nat) (n0 n1 n2 n3 n4 n5 n6 n7 n8 n9 n10 n11 : Nat) (w : World) (HC0 : Hid (Calls Tryd.prog 29 #[.slice ad len cap, .int .i64 (4 : Nat), .int .i64 (1 : Nat)] w fun e w' => e = .returned (.int .u64 (n0 : Nat)) ∧ w' = w)) (HC1 : Hid (Calls Tryd.prog 29 #[.slice ad len cap, .int .i64 (5 : Nat), .int .i64 (1 : Nat)] w fun e w' => e = .returned (.int .u64 (n1 : Nat)) ∧ w' = w)) (HC2 : Hid (Calls Tryd.prog 29 #[.slice ad len cap, .int .i64 (6 : Nat), .int .i64 (1 : Nat)] w fun e w' => e = .returned (.int .u64 (n2 : Nat)) ∧ w' = w)) (HC3 : Hid (Calls Tryd.prog 29 #[.slice ad len cap, .int .i64 (16 : Nat), .int .i64 (2 : Nat)] w fun e w' => e = .returned (.int .u64 (n3 : Nat)) ∧ w' = w)) (HC4 : Hid (Calls Tryd.prog 29 #[.slice ad len cap, .int .i64 (18 : Nat), .int .i64 (2 : Nat)] w fun e w' => e = .returned (.int .u64 (n4 : Nat)) ∧ w' = w)) (HC5 : Hid (Calls Tryd.prog 29 #[.slice ad len cap, .int .i64 (20 : Nat), .int .i64 (4 : Nat)] w fun e w' => e = .returned (.int .u64 (n5 : Nat)) ∧ w' = w)) (HC6 : Hid (Calls Tryd.prog 29 #[.slice ad len cap, .int .i64 (48 : Nat), .int .i64 (4 : Nat)] w fun e w' => e = .returned (.int .u64 (n6 : Nat)) ∧ w' = w)) (HC7 : Hid (Calls Tryd.prog 29 #[.slice ad len cap, .int .i64 (52 : Nat), .int .i64 (2 : Nat)] w fun e w' => e = .returned (.int .u64 (n7 : Nat)) ∧ w' = w)) (HC8 : Hid (Calls Tryd.prog 29 #[.slice ad len cap, .int .i64 (54 : Nat), .int .i64 (2 : Nat)] w fun e w' => e = .returned (.int .u64 (n8 : Nat)) ∧ w' = w)) (HC9 : Hid (Calls Tryd.prog 29 #[.slice ad len cap, .int .i64 (58 : Nat), .int .i64 (2 : Nat)] w fun e w' => e = .returned (.int .u64 (n9 : Nat)) ∧ w' = w)) (HC10 : Hid (Calls Tryd.prog 29 #[.slice ad len cap, .int .i64 (56 : Nat), .int .i64 (2 : Nat)] w fun e w' => e = .returned (.int .u64 (n10 : Nat)) ∧ w' = w)) (HC11 : Hid (Calls Tryd.prog 29 #[.slice ad len cap, .int .i64 (60 : Nat), .int .i64 (2 : Nat)] w fun e w' => e = .returned (.int .u64 (n11 : Nat)) ∧ w' = w)) (h0 : n0 = 2) (h1 : n1 = 1) (h2 : n2 = 1) (h3 : n3 = 2) (h4 : n4 = 62) (h5 : n5 = 1) (h6 : n6 = 0) (h7 : n7 = 64) (r1 : ¬ n10 = 0) (r2 : n8 = 56) (s1 : ¬ n11 = 0) (s2 : ¬ n9 = 64) : Calls Tryd.prog 28 #[.slice ad len cap] w fun e W' => e = .returned (.bool false) ∧ W' = w := by
  have e0 : ((n0 : Int) == 2) = true := by simp; omega
  have e1 : ((n1 : Int) == 1) = true := by simp; omega
  have e2 : ((n2 : Int) == 1) = true := by simp; omega
  have e3 : ((n3 : Int) == 2) = true := by simp; omega
  have e4 : ((n4 : Int) == 62) = true := by simp; omega
  have e5 : ((n5 : Int) == 1) = true := by simp; omega
  have e6 : ((n6 : Int) == 0) = true := by simp; omega
  have e7 : ((n7 : Int) == 64) = true := by simp; omega
  have c1 : decide ((0 : Int) < (n10 : Int)) = true := decide_eq_true (by omega)
  have c2 : ((n8 : Int) == 56) = true := by simp; omega
  have d1 : decide ((0 : Int) < (n11 : Int)) = true := decide_eq_true (by omega)
  have d2 : ((n9 : Int) == 64) = false := by simp; omega
  go_enter Tryd.func28, Tryd.ntmps28
  go_wp2_with fail
  go_at_call 29
  refine HC10.out.mono ?_
  first | (rintro e W9 rfl rfl) | (rintro e W9 ⟨rfl, rfl⟩)
  go_wp2_with fail
  go_at_call 29
  refine HC11.out.mono ?_
  first | (rintro e W9 rfl rfl) | (rintro e W9 ⟨rfl, rfl⟩)
  go_wp2_with fail
  go_at_call 29
  refine HC0.out.mono ?_
  first | (rintro e W9 rfl rfl) | (rintro e W9 ⟨rfl, rfl⟩)
  go_wp2_with fail
  go_at_call 29
  refine HC1.out.mono ?_
  first | (rintro e W9 rfl rfl) | (rintro e W9 ⟨rfl, rfl⟩)
  go_wp2_with fail
  go_at_call 29
  refine HC2.out.mono ?_
  first | (rintro e W9 rfl rfl) | (rintro e W9 ⟨rfl, rfl⟩)
  go_wp2_with fail
  go_at_call 29
  refine HC3.out.mono ?_
  first | (rintro e W9 rfl rfl) | (rintro e W9 ⟨rfl, rfl⟩)
  go_wp2_with fail
  go_at_call 29
  refine HC4.out.mono ?_
  first | (rintro e W9 rfl rfl) | (rintro e W9 ⟨rfl, rfl⟩)
  go_wp2_with fail
  go_at_call 29
  refine HC5.out.mono ?_
  first | (rintro e W9 rfl rfl) | (rintro e W9 ⟨rfl, rfl⟩)
  go_wp2_with fail
  go_at_call 29
  refine HC6.out.mono ?_
  first | (rintro e W9 rfl rfl) | (rintro e W9 ⟨rfl, rfl⟩)
  go_wp2_with fail
  go_at_call 29
  refine HC7.out.mono ?_
  first | (rintro e W9 rfl rfl) | (rintro e W9 ⟨rfl, rfl⟩)
  go_wp2_with fail
  go_at_call 29
  refine HC8.out.mono ?_
  first | (rintro e W9 rfl rfl) | (rintro e W9 ⟨rfl, rfl⟩)
  go_wp2_with fail
  go_at_call 29
  refine HC9.out.mono ?_
  first | (rintro e W9 rfl rfl) | (rintro e W9 ⟨rfl, rfl⟩)
  go_wp2_with fail
  go_ret
  exact ⟨rfl, rfl⟩
set_option maxRecDepth 100000 in
set_option maxHeartbeats 8000000 in
theorem right_l18 (ad : Option Addr) (len cap : Nat) (n0 n1 n2 n3 n4 n5 n6 n7 n8 n10 n11 : Nat) (w : World) (HC0 : Hid (Calls Tryd.prog 29 #[.slice ad len cap, .int .i64 (4 : Nat), .int .i64 (1 : Nat)] w fun e w' => e = .returned (.int .u64 (n0 : Nat)) ∧ w' = w)) (HC1 : Hid (Calls Tryd.prog 29 #[.slice ad len cap, .int .i64 (5 : Nat), .int .i64 (1 : Nat)] w fun e w' => e = .returned (.int .u64 (n1 : Nat)) ∧ w' = w)) (HC2 : Hid (Calls Tryd.prog 29 #[.slice ad len cap, .int .i64 (6 : Nat), .int .i64 (1 : Nat)] w fun e w' => e = .returned (.int .u64 (n2 : Nat)) ∧ w' = w)) (HC3 : Hid (Calls Tryd.prog 29 #[.slice ad len cap, .int .i64 (16 : Nat), .int .i64 (2 : Nat)] w fun e w' => e = .returned (.int .u64 (n3 : Nat)) ∧ w' = w)) (HC4 : Hid (Calls Tryd.prog 29 #[.slice ad len cap, .int .i64 (18 : Nat), .int .i64 (2 : Nat)] w fun e w' => e = .returned (.int .u64 (n4 : Nat)) ∧ w' = w)) (HC5 : Hid (Calls Tryd.prog 29 #[.slice ad len cap, .int .i64 (20 : Nat), .int .i64 (4 : Nat)] w fun e w' => e = .returned (.int .u64 (n5 : Nat)) ∧ w' = w)) (HC6 : Hid (Calls Tryd.prog 29 #[.slice ad len cap, .int .i64 (48 : Nat), .int .i64 (4 : Nat)] w fun e w' => e = .returned (.int .u64 (n6 : Nat)) ∧ w' = w)) (HC7 : Hid (Calls Tryd.prog 29 #[.slice ad len cap, .int .i64 (52 : Nat), .int .i64 (2 : Nat)] w fun e w' => e = .returned (.int .u64 (n7 : Nat)) ∧ w' = w)) (HC8 : Hid (Calls Tryd.prog 29 #[.slice ad len cap, .int .i64 (54 : Nat), .int .i64 (2 : Nat)] w fun e w' => e = .returned (.int .u64 (n8 : Nat)) ∧ w' = w)) (HC10 : Hid (Calls Tryd.prog 29 #[.slice ad len cap, .int .i64 (56 : Nat), .int .i64 (2 : Nat)] w fun e w' => e = .returned (.int .u64 (n10 : Nat)) ∧ w' = w)) (HC11 : Hid (Calls Tryd.prog 29 #[.slice ad len cap, .int .i64 (60 : Nat), .int .i64 (2 : Nat)] w fun e w' => e = .returned (.int .u64 (n11 : Nat)) ∧ w' = w)) (h0 : n0 = 2) (h1 : n1 = 1) (h2 : n2 = 1) (h3 : n3 = 2) (h4 : n4 = 62) (h5 : n5 = 1) (h6 : n6 = 0) (h7 : n7 = 64) (r1 : ¬ n10 = 0) (r2 : ¬ n8 = 56) : Calls Tryd.prog 28 #[.slice ad len cap] w fun e W' => e = .returned (.bool false) ∧ W' = w := by
  have e0 : ((n0 : Int) == 2) = true := by simp; omega
  have e1 : ((n1 : Int) == 1) = true := by simp; omega
  have e2 : ((n2 : Int) == 1) = true := by simp; omega
  have e3 : ((n3 : Int) == 2) = true := by simp; omega
  have e4 : ((n4 : Int) == 62) = true := by simp; omega
  have e5 : ((n5 : Int) == 1) = true := by simp; omega
  have e6 : ((n6 : Int) == 0) = true := by simp; omega
  have e7 : ((n7 : Int) == 64) = true := by simp; omega
  have c1 : decide ((0 : Int) < (n10 : Int)) = true := decide_eq_true (by omega)
  have c2 : ((n8 : Int) == 56) = false := by simp; omega
  go_enter Tryd.func28, Tryd.ntmps28
  go_wp2_with fail
  go_at_call 29
  refine HC10.out.mono ?_
  first | (rintro e W9 rfl rfl) | (rintro e W9 ⟨rfl, rfl⟩)
  go_wp2_with fail
  go_at_call 29
  refine HC11.out.mono ?_
  first | (rintro e W9 rfl rfl) | (rintro e W9 ⟨rfl, rfl⟩)
  go_wp2_with fail
  go_at_call 29
  refine HC0.out.mono ?_
  first | (rintro e W9 rfl rfl) | (rintro e W9 ⟨rfl, rfl⟩)
  go_wp2_with fail
  go_at_call 29
  refine HC1.out.mono ?_
  first | (rintro e W9 rfl rfl) | (rintro e W9 ⟨rfl, rfl⟩)
  go_wp2_with fail
  go_at_call 29
  refine HC2.out.mono ?_
  first | (rintro e W9 rfl rfl) | (rintro e W9 ⟨rfl, rfl⟩)
  go_wp2_with fail
  go_at_call 29
  refine HC3.out.mono ?_
  first | (rintro e W9 rfl rfl) | (rintro e W9 ⟨rfl, rfl⟩)
  go_wp2_with fail
  go_at_call 29
  refine HC4.out.mono ?_
  first | (rintro e W9 rfl rfl) | (rintro e W9 ⟨rfl, rfl⟩)
  go_wp2_with fail
  go_at_call 29
  refine HC5.out.mono ?_
  first | (rintro e W9 rfl rfl) | (rintro e W9 ⟨rfl, rfl⟩)
  go_wp2_with fail
  go_at_call 29
  refine HC6.out.mono ?_
  first | (rintro e W9 rfl rfl) | (rintro e W9 ⟨rfl, rfl⟩)
  go_wp2_with fail
  go_at_call 29
  refine HC7.out.mono ?_
  first | (rintro e W9 rfl rfl) | (rintro e W9 ⟨rfl, rfl⟩)
  go_wp2_with fail
  go_at_call 29
  refine HC8.out.mono ?_
  first | (rintro e W9 rfl rfl) | (rintro e W9 ⟨rfl, rfl⟩)
  go_wp2_with fail
  go_ret
  exact ⟨rfl, rfl⟩
theorem rright_any (ad : Option Addr) (len cap : Nat) (z : Nat → Nat) (hz : ∀ j, z j < 256) (hn : 64 ≤ len) (hl : len ≤ cap) (hm : cap ≤ 9223372036854775807) (w : World) (h : BS w ad len z) :
    Calls Tryd.prog 28 #[.slice ad len cap] w fun e W' => e = .returned (.bool (kindsB z)) ∧ W' = w := by
  have HF := Lib.hid (kinds_form z)
  have HR := Lib.hid (fun o s h1 h8 ho => rat_any ad len cap z hz o s h1 h8 ho hl hm w h)
  clear h hz hl hm
  by_cases h0 : numZ z 4 1 = 2
  rotate_left
  · rw [show kindsB z = false by rw [HF.out]; simp [h0]]
    exact right_l0 ad len cap _ _ _ w (Lib.hid (HR.out 4 1 (by decide) (by decide) (by omega))) (Lib.hid (HR.out 56 2 (by decide) (by decide) (by omega))) (Lib.hid (HR.out 60 2 (by decide) (by decide) (by omega))) h0
  by_cases h1 : numZ z 5 1 = 1
  rotate_left
  · rw [show kindsB z = false by rw [HF.out]; simp [h0, h1]]
    exact right_l1 ad len cap _ _ _ _ w (Lib.hid (HR.out 4 1 (by decide) (by decide) (by omega))) (Lib.hid (HR.out 5 1 (by decide) (by decide) (by omega))) (Lib.hid (HR.out 56 2 (by decide) (by decide) (by omega))) (Lib.hid (HR.out 60 2 (by decide) (by decide) (by omega))) h0 h1
  by_cases h2 : numZ z 6 1 = 1
  rotate_left
  · rw [show kindsB z = false by rw [HF.out]; simp [h0, h1, h2]]
    exact right_l2 ad len cap _ _ _ _ _ w (Lib.hid (HR.out 4 1 (by decide) (by decide) (by omega))) (Lib.hid (HR.out 5 1 (by decide) (by decide) (by omega))) (Lib.hid (HR.out 6 1 (by decide) (by decide) (by omega))) (Lib.hid (HR.out 56 2 (by decide) (by decide) (by omega))) (Lib.hid (HR.out 60 2 (by decide) (by decide) (by omega))) h0 h1 h2
  by_cases h3 : numZ z 16 2 = 2
  rotate_left
  · rw [show kindsB z = false by rw [HF.out]; simp [h0, h1, h2, h3]]
    exact right_l3 ad len cap _ _ _ _ _ _ w (Lib.hid (HR.out 4 1 (by decide) (by decide) (by omega))) (Lib.hid (HR.out 5 1 (by decide) (by decide) (by omega))) (Lib.hid (HR.out 6 1 (by decide) (by decide) (by omega))) (Lib.hid (HR.out 16 2 (by decide) (by decide) (by omega))) (Lib.hid (HR.out 56 2 (by decide) (by decide) (by omega))) (Lib.hid (HR.out 60 2 (by decide) (by decide) (by omega))) h0 h1 h2 h3
  by_cases h4 : numZ z 18 2 = 62
  rotate_left
  · rw [show kindsB z = false by rw [HF.out]; simp [h0, h1, h2, h3, h4]]
    exact right_l4 ad len cap _ _ _ _ _ _ _ w (Lib.hid (HR.out 4 1 (by decide) (by decide) (by omega))) (Lib.hid (HR.out 5 1 (by decide) (by decide) (by omega))) (Lib.hid (HR.out 6 1 (by decide) (by decide) (by omega))) (Lib.hid (HR.out 16 2 (by decide) (by decide) (by omega))) (Lib.hid (HR.out 18 2 (by decide) (by decide) (by omega))) (Lib.hid (HR.out 56 2 (by decide) (by decide) (by omega))) (Lib.hid (HR.out 60 2 (by decide) (by decide) (by omega))) h0 h1 h2 h3 h4
  by_cases h5 : numZ z 20 4 = 1
  rotate_left
  · rw [show kindsB z = false by rw [HF.out]; simp [h0, h1, h2, h3, h4, h5]]
    exact right_l5 ad len cap _ _ _ _ _ _ _ _ w (Lib.hid (HR.out 4 1 (by decide) (by decide) (by omega))) (Lib.hid (HR.out 5 1 (by decide) (by decide) (by omega))) (Lib.hid (HR.out 6 1 (by decide) (by decide) (by omega))) (Lib.hid (HR.out 16 2 (by decide) (by decide) (by omega))) (Lib.hid (HR.out 18 2 (by decide) (by decide) (by omega))) (Lib.hid (HR.out 20 4 (by decide) (by decide) (by omega))) (Lib.hid (HR.out 56 2 (by decide) (by decide) (by omega))) (Lib.hid (HR.out 60 2 (by decide) (by decide) (by omega))) h0 h1 h2 h3 h4 h5
  by_cases h6 : numZ z 48 4 = 0
  rotate_left
  · rw [show kindsB z = false by rw [HF.out]; simp [h0, h1, h2, h3, h4, h5, h6]]
    exact right_l6 ad len cap _ _ _ _ _ _ _ _ _ w (Lib.hid (HR.out 4 1 (by decide) (by decide) (by omega))) (Lib.hid (HR.out 5 1 (by decide) (by decide) (by omega))) (Lib.hid (HR.out 6 1 (by decide) (by decide) (by omega))) (Lib.hid (HR.out 16 2 (by decide) (by decide) (by omega))) (Lib.hid (HR.out 18 2 (by decide) (by decide) (by omega))) (Lib.hid (HR.out 20 4 (by decide) (by decide) (by omega))) (Lib.hid (HR.out 48 4 (by decide) (by decide) (by omega))) (Lib.hid (HR.out 56 2 (by decide) (by decide) (by omega))) (Lib.hid (HR.out 60 2 (by decide) (by decide) (by omega))) h0 h1 h2 h3 h4 h5 h6
  by_cases h7 : numZ z 52 2 = 64
  rotate_left
  · rw [show kindsB z = false by rw [HF.out]; simp [h0, h1, h2, h3, h4, h5, h6, h7]]
    exact right_l7 ad len cap _ _ _ _ _ _ _ _ _ _ w (Lib.hid (HR.out 4 1 (by decide) (by decide) (by omega))) (Lib.hid (HR.out 5 1 (by decide) (by decide) (by omega))) (Lib.hid (HR.out 6 1 (by decide) (by decide) (by omega))) (Lib.hid (HR.out 16 2 (by decide) (by decide) (by omega))) (Lib.hid (HR.out 18 2 (by decide) (by decide) (by omega))) (Lib.hid (HR.out 20 4 (by decide) (by decide) (by omega))) (Lib.hid (HR.out 48 4 (by decide) (by decide) (by omega))) (Lib.hid (HR.out 52 2 (by decide) (by decide) (by omega))) (Lib.hid (HR.out 56 2 (by decide) (by decide) (by omega))) (Lib.hid (HR.out 60 2 (by decide) (by decide) (by omega))) h0 h1 h2 h3 h4 h5 h6 h7
  by_cases r1 : numZ z 56 2 = 0
  · by_cases s1 : numZ z 60 2 = 0
    · by_cases g1 : numZ z 56 2 ≤ 16
      · by_cases g2 : numZ z 60 2 ≤ 32
        · rw [show kindsB z = true by rw [HF.out]; simp [h0, h1, h2, h3, h4, h5, h6, h7, r1, s1, g1, g2]]
          exact right_l8 ad len cap _ _ _ _ _ _ _ _ _ _ w (Lib.hid (HR.out 4 1 (by decide) (by decide) (by omega))) (Lib.hid (HR.out 5 1 (by decide) (by decide) (by omega))) (Lib.hid (HR.out 6 1 (by decide) (by decide) (by omega))) (Lib.hid (HR.out 16 2 (by decide) (by decide) (by omega))) (Lib.hid (HR.out 18 2 (by decide) (by decide) (by omega))) (Lib.hid (HR.out 20 4 (by decide) (by decide) (by omega))) (Lib.hid (HR.out 48 4 (by decide) (by decide) (by omega))) (Lib.hid (HR.out 52 2 (by decide) (by decide) (by omega))) (Lib.hid (HR.out 56 2 (by decide) (by decide) (by omega))) (Lib.hid (HR.out 60 2 (by decide) (by decide) (by omega))) h0 h1 h2 h3 h4 h5 h6 h7 r1 s1 g1 g2
        · exfalso
          omega
      · exfalso
        omega
    · by_cases s2 : numZ z 58 2 = 64
      · by_cases g1 : numZ z 56 2 ≤ 16
        · by_cases g2 : numZ z 60 2 ≤ 32
          · rw [show kindsB z = true by rw [HF.out]; simp [h0, h1, h2, h3, h4, h5, h6, h7, r1, s1, s2, g1, g2]]
            exact right_l9 ad len cap _ _ _ _ _ _ _ _ _ _ _ w (Lib.hid (HR.out 4 1 (by decide) (by decide) (by omega))) (Lib.hid (HR.out 5 1 (by decide) (by decide) (by omega))) (Lib.hid (HR.out 6 1 (by decide) (by decide) (by omega))) (Lib.hid (HR.out 16 2 (by decide) (by decide) (by omega))) (Lib.hid (HR.out 18 2 (by decide) (by decide) (by omega))) (Lib.hid (HR.out 20 4 (by decide) (by decide) (by omega))) (Lib.hid (HR.out 48 4 (by decide) (by decide) (by omega))) (Lib.hid (HR.out 52 2 (by decide) (by decide) (by omega))) (Lib.hid (HR.out 58 2 (by decide) (by decide) (by omega))) (Lib.hid (HR.out 56 2 (by decide) (by decide) (by omega))) (Lib.hid (HR.out 60 2 (by decide) (by decide) (by omega))) h0 h1 h2 h3 h4 h5 h6 h7 r1 s1 s2 g1 g2
          · rw [show kindsB z = false by rw [HF.out]; simp [h0, h1, h2, h3, h4, h5, h6, h7, r1, s1, s2, g1, g2]]
            exact right_l10 ad len cap _ _ _ _ _ _ _ _ _ _ _ w (Lib.hid (HR.out 4 1 (by decide) (by decide) (by omega))) (Lib.hid (HR.out 5 1 (by decide) (by decide) (by omega))) (Lib.hid (HR.out 6 1 (by decide) (by decide) (by omega))) (Lib.hid (HR.out 16 2 (by decide) (by decide) (by omega))) (Lib.hid (HR.out 18 2 (by decide) (by decide) (by omega))) (Lib.hid (HR.out 20 4 (by decide) (by decide) (by omega))) (Lib.hid (HR.out 48 4 (by decide) (by decide) (by omega))) (Lib.hid (HR.out 52 2 (by decide) (by decide) (by omega))) (Lib.hid (HR.out 58 2 (by decide) (by decide) (by omega))) (Lib.hid (HR.out 56 2 (by decide) (by decide) (by omega))) (Lib.hid (HR.out 60 2 (by decide) (by decide) (by omega))) h0 h1 h2 h3 h4 h5 h6 h7 r1 s1 s2 g1 g2
        · exfalso
          omega
      · rw [show kindsB z = false by rw [HF.out]; simp [h0, h1, h2, h3, h4, h5, h6, h7, r1, s1, s2]]
        exact right_l11 ad len cap _ _ _ _ _ _ _ _ _ _ _ w (Lib.hid (HR.out 4 1 (by decide) (by decide) (by omega))) (Lib.hid (HR.out 5 1 (by decide) (by decide) (by omega))) (Lib.hid (HR.out 6 1 (by decide) (by decide) (by omega))) (Lib.hid (HR.out 16 2 (by decide) (by decide) (by omega))) (Lib.hid (HR.out 18 2 (by decide) (by decide) (by omega))) (Lib.hid (HR.out 20 4 (by decide) (by decide) (by omega))) (Lib.hid (HR.out 48 4 (by decide) (by decide) (by omega))) (Lib.hid (HR.out 52 2 (by decide) (by decide) (by omega))) (Lib.hid (HR.out 58 2 (by decide) (by decide) (by omega))) (Lib.hid (HR.out 56 2 (by decide) (by decide) (by omega))) (Lib.hid (HR.out 60 2 (by decide) (by decide) (by omega))) h0 h1 h2 h3 h4 h5 h6 h7 r1 s1 s2
  · by_cases r2 : numZ z 54 2 = 56
    · by_cases s1 : numZ z 60 2 = 0
      · by_cases g1 : numZ z 56 2 ≤ 16
        · by_cases g2 : numZ z 60 2 ≤ 32
          · rw [show kindsB z = true by rw [HF.out]; simp [h0, h1, h2, h3, h4, h5, h6, h7, r1, r2, s1, g1, g2]]
            exact right_l12 ad len cap _ _ _ _ _ _ _ _ _ _ _ w (Lib.hid (HR.out 4 1 (by decide) (by decide) (by omega))) (Lib.hid (HR.out 5 1 (by decide) (by decide) (by omega))) (Lib.hid (HR.out 6 1 (by decide) (by decide) (by omega))) (Lib.hid (HR.out 16 2 (by decide) (by decide) (by omega))) (Lib.hid (HR.out 18 2 (by decide) (by decide) (by omega))) (Lib.hid (HR.out 20 4 (by decide) (by decide) (by omega))) (Lib.hid (HR.out 48 4 (by decide) (by decide) (by omega))) (Lib.hid (HR.out 52 2 (by decide) (by decide) (by omega))) (Lib.hid (HR.out 54 2 (by decide) (by decide) (by omega))) (Lib.hid (HR.out 56 2 (by decide) (by decide) (by omega))) (Lib.hid (HR.out 60 2 (by decide) (by decide) (by omega))) h0 h1 h2 h3 h4 h5 h6 h7 r1 r2 s1 g1 g2
          · exfalso
            omega
        · rw [show kindsB z = false by rw [HF.out]; simp [h0, h1, h2, h3, h4, h5, h6, h7, r1, r2, s1, g1]]
          exact right_l13 ad len cap _ _ _ _ _ _ _ _ _ _ _ w (Lib.hid (HR.out 4 1 (by decide) (by decide) (by omega))) (Lib.hid (HR.out 5 1 (by decide) (by decide) (by omega))) (Lib.hid (HR.out 6 1 (by decide) (by decide) (by omega))) (Lib.hid (HR.out 16 2 (by decide) (by decide) (by omega))) (Lib.hid (HR.out 18 2 (by decide) (by decide) (by omega))) (Lib.hid (HR.out 20 4 (by decide) (by decide) (by omega))) (Lib.hid (HR.out 48 4 (by decide) (by decide) (by omega))) (Lib.hid (HR.out 52 2 (by decide) (by decide) (by omega))) (Lib.hid (HR.out 54 2 (by decide) (by decide) (by omega))) (Lib.hid (HR.out 56 2 (by decide) (by decide) (by omega))) (Lib.hid (HR.out 60 2 (by decide) (by decide) (by omega))) h0 h1 h2 h3 h4 h5 h6 h7 r1 r2 s1 g1
      · by_cases s2 : numZ z 58 2 = 64
        · by_cases g1 : numZ z 56 2 ≤ 16
          · by_cases g2 : numZ z 60 2 ≤ 32
            · rw [show kindsB z = true by rw [HF.out]; simp [h0, h1, h2, h3, h4, h5, h6, h7, r1, r2, s1, s2, g1, g2]]
              exact right_l14 ad len cap _ _ _ _ _ _ _ _ _ _ _ _ w (Lib.hid (HR.out 4 1 (by decide) (by decide) (by omega))) (Lib.hid (HR.out 5 1 (by decide) (by decide) (by omega))) (Lib.hid (HR.out 6 1 (by decide) (by decide) (by omega))) (Lib.hid (HR.out 16 2 (by decide) (by decide) (by omega))) (Lib.hid (HR.out 18 2 (by decide) (by decide) (by omega))) (Lib.hid (HR.out 20 4 (by decide) (by decide) (by omega))) (Lib.hid (HR.out 48 4 (by decide) (by decide) (by omega))) (Lib.hid (HR.out 52 2 (by decide) (by decide) (by omega))) (Lib.hid (HR.out 54 2 (by decide) (by decide) (by omega))) (Lib.hid (HR.out 58 2 (by decide) (by decide) (by omega))) (Lib.hid (HR.out 56 2 (by decide) (by decide) (by omega))) (Lib.hid (HR.out 60 2 (by decide) (by decide) (by omega))) h0 h1 h2 h3 h4 h5 h6 h7 r1 r2 s1 s2 g1 g2
            · rw [show kindsB z = false by rw [HF.out]; simp [h0, h1, h2, h3, h4, h5, h6, h7, r1, r2, s1, s2, g1, g2]]
              exact right_l15 ad len cap _ _ _ _ _ _ _ _ _ _ _ _ w (Lib.hid (HR.out 4 1 (by decide) (by decide) (by omega))) (Lib.hid (HR.out 5 1 (by decide) (by decide) (by omega))) (Lib.hid (HR.out 6 1 (by decide) (by decide) (by omega))) (Lib.hid (HR.out 16 2 (by decide) (by decide) (by omega))) (Lib.hid (HR.out 18 2 (by decide) (by decide) (by omega))) (Lib.hid (HR.out 20 4 (by decide) (by decide) (by omega))) (Lib.hid (HR.out 48 4 (by decide) (by decide) (by omega))) (Lib.hid (HR.out 52 2 (by decide) (by decide) (by omega))) (Lib.hid (HR.out 54 2 (by decide) (by decide) (by omega))) (Lib.hid (HR.out 58 2 (by decide) (by decide) (by omega))) (Lib.hid (HR.out 56 2 (by decide) (by decide) (by omega))) (Lib.hid (HR.out 60 2 (by decide) (by decide) (by omega))) h0 h1 h2 h3 h4 h5 h6 h7 r1 r2 s1 s2 g1 g2
          · rw [show kindsB z = false by rw [HF.out]; simp [h0, h1, h2, h3, h4, h5, h6, h7, r1, r2, s1, s2, g1]]
            exact right_l16 ad len cap _ _ _ _ _ _ _ _ _ _ _ _ w (Lib.hid (HR.out 4 1 (by decide) (by decide) (by omega))) (Lib.hid (HR.out 5 1 (by decide) (by decide) (by omega))) (Lib.hid (HR.out 6 1 (by decide) (by decide) (by omega))) (Lib.hid (HR.out 16 2 (by decide) (by decide) (by omega))) (Lib.hid (HR.out 18 2 (by decide) (by decide) (by omega))) (Lib.hid (HR.out 20 4 (by decide) (by decide) (by omega))) (Lib.hid (HR.out 48 4 (by decide) (by decide) (by omega))) (Lib.hid (HR.out 52 2 (by decide) (by decide) (by omega))) (Lib.hid (HR.out 54 2 (by decide) (by decide) (by omega))) (Lib.hid (HR.out 58 2 (by decide) (by decide) (by omega))) (Lib.hid (HR.out 56 2 (by decide) (by decide) (by omega))) (Lib.hid (HR.out 60 2 (by decide) (by decide) (by omega))) h0 h1 h2 h3 h4 h5 h6 h7 r1 r2 s1 s2 g1
        · rw [show kindsB z = false by rw [HF.out]; simp [h0, h1, h2, h3, h4, h5, h6, h7, r1, r2, s1, s2]]
          exact right_l17 ad len cap _ _ _ _ _ _ _ _ _ _ _ _ w (Lib.hid (HR.out 4 1 (by decide) (by decide) (by omega))) (Lib.hid (HR.out 5 1 (by decide) (by decide) (by omega))) (Lib.hid (HR.out 6 1 (by decide) (by decide) (by omega))) (Lib.hid (HR.out 16 2 (by decide) (by decide) (by omega))) (Lib.hid (HR.out 18 2 (by decide) (by decide) (by omega))) (Lib.hid (HR.out 20 4 (by decide) (by decide) (by omega))) (Lib.hid (HR.out 48 4 (by decide) (by decide) (by omega))) (Lib.hid (HR.out 52 2 (by decide) (by decide) (by omega))) (Lib.hid (HR.out 54 2 (by decide) (by decide) (by omega))) (Lib.hid (HR.out 58 2 (by decide) (by decide) (by omega))) (Lib.hid (HR.out 56 2 (by decide) (by decide) (by omega))) (Lib.hid (HR.out 60 2 (by decide) (by decide) (by omega))) h0 h1 h2 h3 h4 h5 h6 h7 r1 r2 s1 s2
    · rw [show kindsB z = false by rw [HF.out]; simp [h0, h1, h2, h3, h4, h5, h6, h7, r1, r2]]
      exact right_l18 ad len cap _ _ _ _ _ _ _ _ _ _ _ w (Lib.hid (HR.out 4 1 (by decide) (by decide) (by omega))) (Lib.hid (HR.out 5 1 (by decide) (by decide) (by omega))) (Lib.hid (HR.out 6 1 (by decide) (by decide) (by omega))) (Lib.hid (HR.out 16 2 (by decide) (by decide) (by omega))) (Lib.hid (HR.out 18 2 (by decide) (by decide) (by omega))) (Lib.hid (HR.out 20 4 (by decide) (by decide) (by omega))) (Lib.hid (HR.out 48 4 (by decide) (by decide) (by omega))) (Lib.hid (HR.out 52 2 (by decide) (by decide) (by omega))) (Lib.hid (HR.out 54 2 (by decide) (by decide) (by omega))) (Lib.hid (HR.out 56 2 (by decide) (by decide) (by omega))) (Lib.hid (HR.out 60 2 (by decide) (by decide) (by omega))) h0 h1 h2 h3 h4 h5 h6 h7 r1 r2
end Go.Proofs.YtnaggdhophncaaaDoor
