/- The reference's Address. -/
import Derived.Test.YtkpnafgmjcnniaaDoorAn
namespace Go.Proofs.YtkpnafgmjcnniaaDoor
open Go.RowKit
set_option linter.unusedVariables false
set_option linter.unusedSimpArgs false
theorem raddr_no (k r b i s d : Int) (p : Bool) (m x : Int) (c : Array Value) (hk : (k != 2) = true) (w : World) :
    Calls Tryd.prog 28 #[.agg c, ov k r b i s d p m, .int .u64 x] w fun e W' => e = .returned (.tuple #[.int .u64 0, .int .i64 2]) ∧ Below w.heap.size w W' := by
  have HA := Lib.hid (AO.new w c k r b i s d p m)
  go_enter Tryd.func28, Tryd.ntmps28
  go_upto_region 1 with fail
  generalize World.alloc (World.alloc _ _) _ = W1 at *
  obtain ⟨c0, c1, c2, c3, c4, c5, c6, c7⟩ := HA.out.o.c
  go_wp2_with fail
  go_returns
  exact ⟨rfl, HA.out.b⟩
theorem raddr_bad (r b i s d : Int) (p : Bool) (m x : Int) (c : Array Value) (hR : ∀ W, Calls Tryd.prog 19 #[ov 2 r b i s d p m] W fun e w' => e = .returned (.bool false) ∧ Below W.heap.size W w') (w : World) :
    Calls Tryd.prog 28 #[.agg c, ov 2 r b i s d p m, .int .u64 x] w fun e W' => e = .returned (.tuple #[.int .u64 0, .int .i64 2]) ∧ Below w.heap.size w W' := by
  have HA := Lib.hid (AO.new w c 2 r b i s d p m)
  go_enter Tryd.func28, Tryd.ntmps28
  go_upto_region 1 with fail
  generalize World.alloc (World.alloc _ _) _ = W1 at *
  obtain ⟨c0, c1, c2, c3, c4, c5, c6, c7⟩ := HA.out.o.c
  go_wp2_with (go_at_call 19; (with_reducible refine (hR _).mono ?_); rintro e w1 ⟨rfl, hb1⟩)
  go_returns
  exact ⟨rfl, (HA.out.keep hb1).b⟩
set_option maxRecDepth 100000 in
theorem raddr_t (s d : Int) (x B I : Nat) (c : Array Value) (R : Nat → Nat) (hc : CPU c R) (hB : B < 16) (hI : I < 16) (hR : ∀ W, Calls Tryd.prog 19 #[ov 2 0 (-1) (-1) s d true 0] W fun e w' => e = .returned (.bool true) ∧ Below W.heap.size W w') (w : World) :
    Calls Tryd.prog 28 #[.agg c, ov 2 0 (-1) (-1) s d true 0, .int .u64 (x : Nat)] w fun e W' => e = .returned (.tuple #[.int .u64 (IntKind.u64.wrap (IntKind.u64.wrap d + x)), .int .i64 0]) ∧ Below w.heap.size w W' := by
  have HA := Lib.hid (AO.new w c 2 0 (-1) (-1) s d true 0)
  have HC := Lib.hid hc
  clear hc
  go_enter Tryd.func28, Tryd.ntmps28
  go_upto_region 1 with fail
  generalize World.alloc (World.alloc _ _) _ = W1 at *
  obtain ⟨c0, c1, c2, c3, c4, c5, c6, c7⟩ := HA.out.o.c
  go_wp2_with fail
  go_at_call 19
  (with_reducible refine (hR _).mono ?_)
  rintro e w1 ⟨rfl, hb1⟩
  have HA1 := Lib.hid (HA.out.keep hb1)
  clear hb1 c0 c1 c2 c3 c4 c5 c6 c7 HA
  obtain ⟨c0, c1, c2, c3, c4, c5, c6, c7⟩ := HA1.out.o.c
  have e1 := (HA1.out.cp.cell B).trans (HC.out.reg B hB)
  have e2 := (HA1.out.cp.cell I).trans (HC.out.reg I hI)
  go_wp2_with fail
  go_returns
  exact ⟨rfl, HA1.out.b⟩
set_option maxRecDepth 100000 in
theorem raddr_f (s d : Int) (x B I : Nat) (c : Array Value) (R : Nat → Nat) (hc : CPU c R) (hB : B < 16) (hI : I < 16) (hR : ∀ W, Calls Tryd.prog 19 #[ov 2 0 (-1) (-1) s d false 0] W fun e w' => e = .returned (.bool true) ∧ Below W.heap.size W w') (w : World) :
    Calls Tryd.prog 28 #[.agg c, ov 2 0 (-1) (-1) s d false 0, .int .u64 (x : Nat)] w fun e W' => e = .returned (.tuple #[.int .u64 (IntKind.u64.wrap d), .int .i64 0]) ∧ Below w.heap.size w W' := by
  have HA := Lib.hid (AO.new w c 2 0 (-1) (-1) s d false 0)
  have HC := Lib.hid hc
  clear hc
  go_enter Tryd.func28, Tryd.ntmps28
  go_upto_region 1 with fail
  generalize World.alloc (World.alloc _ _) _ = W1 at *
  obtain ⟨c0, c1, c2, c3, c4, c5, c6, c7⟩ := HA.out.o.c
  go_wp2_with fail
  go_at_call 19
  (with_reducible refine (hR _).mono ?_)
  rintro e w1 ⟨rfl, hb1⟩
  have HA1 := Lib.hid (HA.out.keep hb1)
  clear hb1 c0 c1 c2 c3 c4 c5 c6 c7 HA
  obtain ⟨c0, c1, c2, c3, c4, c5, c6, c7⟩ := HA1.out.o.c
  have e1 := (HA1.out.cp.cell B).trans (HC.out.reg B hB)
  have e2 := (HA1.out.cp.cell I).trans (HC.out.reg I hI)
  go_wp2_with fail
  go_returns
  exact ⟨rfl, HA1.out.b⟩
set_option maxRecDepth 100000 in
theorem raddr_b (s d : Int) (x B I : Nat) (c : Array Value) (R : Nat → Nat) (hc : CPU c R) (hB : B < 16) (hI : I < 16) (hR : ∀ W, Calls Tryd.prog 19 #[ov 2 0 B (-1) s d false 0] W fun e w' => e = .returned (.bool true) ∧ Below W.heap.size W w') (w : World) :
    Calls Tryd.prog 28 #[.agg c, ov 2 0 B (-1) s d false 0, .int .u64 (x : Nat)] w fun e W' => e = .returned (.tuple #[.int .u64 (IntKind.u64.wrap (IntKind.u64.wrap d + R B)), .int .i64 0]) ∧ Below w.heap.size w W' := by
  have HA := Lib.hid (AO.new w c 2 0 B (-1) s d false 0)
  have HC := Lib.hid hc
  clear hc
  go_enter Tryd.func28, Tryd.ntmps28
  go_upto_region 1 with fail
  generalize World.alloc (World.alloc _ _) _ = W1 at *
  obtain ⟨c0, c1, c2, c3, c4, c5, c6, c7⟩ := HA.out.o.c
  go_wp2_with fail
  go_at_call 19
  (with_reducible refine (hR _).mono ?_)
  rintro e w1 ⟨rfl, hb1⟩
  have HA1 := Lib.hid (HA.out.keep hb1)
  clear hb1 c0 c1 c2 c3 c4 c5 c6 c7 HA
  obtain ⟨c0, c1, c2, c3, c4, c5, c6, c7⟩ := HA1.out.o.c
  have e1 := (HA1.out.cp.cell B).trans (HC.out.reg B hB)
  have e2 := (HA1.out.cp.cell I).trans (HC.out.reg I hI)
  go_wp2_with fail
  go_returns
  exact ⟨rfl, HA1.out.b⟩
set_option maxRecDepth 100000 in
theorem raddr_i (s d : Int) (x B I : Nat) (c : Array Value) (R : Nat → Nat) (hc : CPU c R) (hB : B < 16) (hI : I < 16) (hR : ∀ W, Calls Tryd.prog 19 #[ov 2 0 (-1) I s d false 0] W fun e w' => e = .returned (.bool true) ∧ Below W.heap.size W w') (w : World) :
    Calls Tryd.prog 28 #[.agg c, ov 2 0 (-1) I s d false 0, .int .u64 (x : Nat)] w fun e W' => e = .returned (.tuple #[.int .u64 (IntKind.u64.wrap (IntKind.u64.wrap d + IntKind.u64.wrap ((R I : Int) * IntKind.u64.wrap s))), .int .i64 0]) ∧ Below w.heap.size w W' := by
  have HA := Lib.hid (AO.new w c 2 0 (-1) I s d false 0)
  have HC := Lib.hid hc
  clear hc
  go_enter Tryd.func28, Tryd.ntmps28
  go_upto_region 1 with fail
  generalize World.alloc (World.alloc _ _) _ = W1 at *
  obtain ⟨c0, c1, c2, c3, c4, c5, c6, c7⟩ := HA.out.o.c
  go_wp2_with fail
  go_at_call 19
  (with_reducible refine (hR _).mono ?_)
  rintro e w1 ⟨rfl, hb1⟩
  have HA1 := Lib.hid (HA.out.keep hb1)
  clear hb1 c0 c1 c2 c3 c4 c5 c6 c7 HA
  obtain ⟨c0, c1, c2, c3, c4, c5, c6, c7⟩ := HA1.out.o.c
  have e1 := (HA1.out.cp.cell B).trans (HC.out.reg B hB)
  have e2 := (HA1.out.cp.cell I).trans (HC.out.reg I hI)
  go_wp2_with fail
  go_quiet (fail)
  go_wp2_with fail
  go_returns
  exact ⟨rfl, below_drewN HA1.out.b _⟩
set_option maxRecDepth 100000 in
theorem raddr_bi (s d : Int) (x B I : Nat) (c : Array Value) (R : Nat → Nat) (hc : CPU c R) (hB : B < 16) (hI : I < 16) (hR : ∀ W, Calls Tryd.prog 19 #[ov 2 0 B I s d false 0] W fun e w' => e = .returned (.bool true) ∧ Below W.heap.size W w') (w : World) :
    Calls Tryd.prog 28 #[.agg c, ov 2 0 B I s d false 0, .int .u64 (x : Nat)] w fun e W' => e = .returned (.tuple #[.int .u64 (IntKind.u64.wrap (IntKind.u64.wrap (IntKind.u64.wrap d + R B) + IntKind.u64.wrap ((R I : Int) * IntKind.u64.wrap s))), .int .i64 0]) ∧ Below w.heap.size w W' := by
  have HA := Lib.hid (AO.new w c 2 0 B I s d false 0)
  have HC := Lib.hid hc
  clear hc
  go_enter Tryd.func28, Tryd.ntmps28
  go_upto_region 1 with fail
  generalize World.alloc (World.alloc _ _) _ = W1 at *
  obtain ⟨c0, c1, c2, c3, c4, c5, c6, c7⟩ := HA.out.o.c
  go_wp2_with fail
  go_at_call 19
  (with_reducible refine (hR _).mono ?_)
  rintro e w1 ⟨rfl, hb1⟩
  have HA1 := Lib.hid (HA.out.keep hb1)
  clear hb1 c0 c1 c2 c3 c4 c5 c6 c7 HA
  obtain ⟨c0, c1, c2, c3, c4, c5, c6, c7⟩ := HA1.out.o.c
  have e1 := (HA1.out.cp.cell B).trans (HC.out.reg B hB)
  have e2 := (HA1.out.cp.cell I).trans (HC.out.reg I hI)
  go_wp2_with fail
  go_quiet (fail)
  go_wp2_with fail
  go_returns
  exact ⟨rfl, below_drewN HA1.out.b _⟩
/-- Every right operand: as cpu.Address. -/
theorem raddr_all (r b i s d : Int) (p : Bool) (m : Int) (x : Nat) (c : Array Value) (R : Nat → Nat) (hc : CPU c R) (hr : rB 2 r b i s d p m = true) (hR : ∀ W, Calls Tryd.prog 19 #[ov 2 r b i s d p m] W fun e w' => e = .returned (.bool true) ∧ Below W.heap.size W w') (w : World) :
    Calls Tryd.prog 28 #[.agg c, ov 2 r b i s d p m, .int .u64 (x : Nat)] w fun e W' => e = .returned (.tuple #[.int .u64 (sumA (adL R p b i s d x)), .int .i64 0]) ∧ Below w.heap.size w W' := by
  obtain ⟨rfl, rfl, b0, b1, i0, i1, hp⟩ := rB_parts hr
  cases p
  · by_cases hb1 : b = -1
    · subst hb1
      by_cases hi1 : i = -1
      · subst hi1
        rw [only_disp]
        exact raddr_f s d x 0 0 c R hc (by omega) (by omega) hR w
      · obtain ⟨I, rfl⟩ := Int.eq_ofNat_of_zero_le (show 0 ≤ i by omega)
        have hI : (I : Int).toNat % 16 = I := by omega
        have e : sumA (adL R false (-1) I s d x) = IntKind.u64.wrap (IntKind.u64.wrap d + IntKind.u64.wrap ((R I : Int) * IntKind.u64.wrap s)) := by
          rw [mul_val, uN_val d]
          simp only [adL, sumA, hI, hi1, if_false, if_true, Bool.false_eq_true, List.nil_append, List.cons_append, List.foldl_cons, List.foldl_nil, IntKind.wrap_u64]
          omega
        rw [e]
        exact raddr_i s d x 0 I c R hc (by omega) (by omega) hR w
    · obtain ⟨B, rfl⟩ := Int.eq_ofNat_of_zero_le (show 0 ≤ b by omega)
      have hB : (B : Int).toNat % 16 = B := by omega
      by_cases hi1 : i = -1
      · subst hi1
        have e : sumA (adL R false B (-1) s d x) = IntKind.u64.wrap (IntKind.u64.wrap d + R B) := by
          rw [uN_val d]
          simp only [adL, sumA, hB, hb1, if_false, if_true, Bool.false_eq_true, List.nil_append, List.cons_append, List.foldl_cons, List.foldl_nil, IntKind.wrap_u64]
          omega
        rw [e]
        exact raddr_b s d x B 0 c R hc (by omega) (by omega) hR w
      · obtain ⟨I, rfl⟩ := Int.eq_ofNat_of_zero_le (show 0 ≤ i by omega)
        have hI : (I : Int).toNat % 16 = I := by omega
        have e : sumA (adL R false B I s d x) = IntKind.u64.wrap (IntKind.u64.wrap (IntKind.u64.wrap d + R B) + IntKind.u64.wrap ((R I : Int) * IntKind.u64.wrap s)) := by
          rw [mul_val, uN_val d]
          simp only [adL, sumA, hI, hB, hi1, hb1, if_false, if_true, Bool.false_eq_true, List.nil_append, List.cons_append, List.foldl_cons, List.foldl_nil, IntKind.wrap_u64]
          omega
        rw [e]
        exact raddr_bi s d x B I c R hc (by omega) (by omega) hR w
  · obtain ⟨rfl, rfl⟩ := hp rfl
    have e : sumA (adL R true (-1) (-1) s d x) = IntKind.u64.wrap (IntKind.u64.wrap d + x) := by
      rw [uN_val d]
      simp only [adL, sumA, if_true, List.foldl_cons, List.foldl_nil, IntKind.wrap_u64]
      omega
    rw [e]
    exact raddr_t s d x 0 0 c R hc (by omega) (by omega) hR w
end Go.Proofs.YtkpnafgmjcnniaaDoor
