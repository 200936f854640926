/- HeaderBack, for every argument. -/
import Derived.Test.YtnaggdhophncaaaDoorHl
import Derived.Test.YtnaggdhophncaaaDoorOh
namespace Go.Proofs.YtnaggdhophncaaaDoor
open Go.RowKit Go.Shelf
set_option linter.unusedVariables false
set_option linter.unusedSimpArgs false
attribute [local go_sem] Oper.semAt_some
theorem back_law (en so sc : Nat) (zs : List Sg) (cs : List Sc) (a1 a2 : Option Addr) (p1 p2 : Nat) (ar : Option Addr) (nr cr : Nat) (rz : Nat → Nat) {w : World} (hh : HdF w en so sc zs cs a1 a2) (hb : BI w ar nr cr rz) (_W : World) (hG : GM w) :
    Calls Tryd.prog 4 #[.agg #[.int .u64 (en : Nat), .int .u64 (so : Nat), .int .u64 (sc : Nat), .slice a1 zs.length p1, .slice a2 cs.length p2], .slice ar nr cr] w fun e W' => e = .returned (.bool true) ∧ Below w.heap.size w W' := by
  cases hg : (decide (40 < zs.length) || (decide (80 < cs.length) || decide (6000 < nr)))
  · cases hk : (decide (zs.length ≤ 16) && decide (cs.length ≤ 32))
    · exact back4_many en so sc zs cs a1 a2 p1 p2 ar nr cr rz hh.okz hh.okc hh.en hb.2.1 w hG hh.r1 hh.r2 hb.1 hg hk
    · simp only [Bool.and_eq_true, decide_eq_true_eq] at hk
      exact back4_some en so sc zs cs a1 a2 p1 p2 ar nr cr rz hh.okz hh.okc hh.en hb.2.1 w hG hh.r1 hh.r2 hb.1 hg hk.1 hk.2
  · exact back4_great en so sc zs.length cs.length a1 a2 p1 p2 ar nr cr w hG hg
end Go.Proofs.YtnaggdhophncaaaDoor
