/- HeaderPlaces, for every argument. -/
import Derived.Test.YtnaggdhophncaaaDoorHp
import Derived.Test.YtnaggdhophncaaaDoorOp
namespace Go.Proofs.YtnaggdhophncaaaDoor
open Go.RowKit Go.Shelf
set_option linter.unusedVariables false
set_option linter.unusedSimpArgs false
attribute [local go_sem] Oper.semAt_some
theorem places_law (s0 s1 s2 s3 s4 s5 s6 c0 c1 c2 c3 c4 : Nat) (one two size : Int) (hs : V32 s0 ∧ V32 s1 ∧ U s2 ∧ U s3 ∧ U s4 ∧ U s5 ∧ U s6) (hc : V32 c0 ∧ U c1 ∧ U c2 ∧ V32 c3 ∧ U c4) (w1 : (Lit.int .u64 one).wf = true) (w2 : (Lit.int .u64 two).wf = true) (w3 : (Lit.int .i64 size).wf = true) (w : World) (hG : GM w) :
    Calls Tryd.prog 6 #[.agg #[.int .u32 (s0 : Nat), .int .u32 (s1 : Nat), .int .u64 (s2 : Nat), .int .u64 (s3 : Nat), .int .u64 (s4 : Nat), .int .u64 (s5 : Nat), .int .u64 (s6 : Nat)], .agg #[.int .u32 (c0 : Nat), .int .u64 (c1 : Nat), .int .u64 (c2 : Nat), .int .u32 (c3 : Nat), .int .u64 (c4 : Nat)], .int .u64 one, .int .u64 two, .int .i64 size] w fun e W' => e = .returned (.bool true) ∧ Below w.heap.size w W' := by
  have b1 := Go.bounds_u64 w1
  have b2 := Go.bounds_u64 w2
  obtain ⟨n1, rfl⟩ := Int.eq_ofNat_of_zero_le b1.1
  obtain ⟨n2, rfl⟩ := Int.eq_ofNat_of_zero_le b2.1
  exact places6_walk s0 s1 s2 s3 s4 s5 s6 c0 c1 c2 c3 c4 n1 n2 size (by unfold U; omega) (by unfold U; omega) w hG
end Go.Proofs.YtnaggdhophncaaaDoor
