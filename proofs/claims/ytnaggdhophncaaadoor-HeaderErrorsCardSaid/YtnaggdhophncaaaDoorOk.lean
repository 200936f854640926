/- HeaderErrors, for every argument. -/
import Derived.Test.YtnaggdhophncaaaDoorEy
import Derived.Test.YtnaggdhophncaaaDoorOh
namespace Go.Proofs.YtnaggdhophncaaaDoor
open Go.RowKit Go.Shelf
set_option linter.unusedVariables false
set_option linter.unusedSimpArgs false
attribute [local go_sem] Oper.semAt_some
theorem errors_law (en so sc : Nat) (zs : List Sg) (cs : List Sc) (a1 a2 : Option Addr) (p1 p2 : Nat) (at_ by_ cut : Int) {w : World} (hh : HdF w en so sc zs cs a1 a2) (h1 : (Lit.int .i64 at_).wf = true) (h2 : (Lit.int .u8 by_).wf = true) (h3 : (Lit.int .i64 cut).wf = true) (_W : World) (hG : GM w) :
    Calls Tryd.prog 5 #[.agg #[.int .u64 (en : Nat), .int .u64 (so : Nat), .int .u64 (sc : Nat), .slice a1 zs.length p1, .slice a2 cs.length p2], .int .i64 at_, .int .u8 by_, .int .i64 cut] w fun e W' => e = .returned (.bool true) ∧ Below w.heap.size w W' := by
  have b1 := Go.bounds_i64 h1
  have b2 := Go.bounds_u8 h2
  have b3 := Go.bounds_i64 h3
  obtain ⟨n, rfl⟩ := Int.eq_ofNat_of_zero_le b2.1
  exact errors5_walk en so sc zs cs a1 a2 p1 p2 at_ n cut (by omega) (by omega) (by omega) hh.okz hh.okc hh.en w hG hh.r1 hh.r2
end Go.Proofs.YtnaggdhophncaaaDoor
