/- HeaderTells, for every argument. -/
import Derived.Test.YtnaggdhophncaaaDoorHt
import Derived.Test.YtnaggdhophncaaaDoorOh
namespace Go.Proofs.YtnaggdhophncaaaDoor
open Go.RowKit Go.Shelf
set_option linter.unusedVariables false
set_option linter.unusedSimpArgs false
attribute [local go_sem] Oper.semAt_some
theorem tells_law (ab : Option Addr) (nb cb : Nat) (zb : Nat → Nat) (en so sc : Nat) (zs : List Sg) (cs : List Sc) (a1 a2 : Option Addr) (p1 p2 : Nat) (s0 s1 s2 s3 s4 s5 s6 c0 c1 c2 c3 c4 : Nat) {w : World} (hb : BI w ab nb cb zb) (hh : HdF w en so sc zs cs a1 a2) (hs : V32 s0 ∧ V32 s1 ∧ U s2 ∧ U s3 ∧ U s4 ∧ U s5 ∧ U s6) (hc : V32 c0 ∧ U c1 ∧ U c2 ∧ V32 c3 ∧ U c4) (_W : World) (hG : GM w) :
    Calls Tryd.prog 3 #[.slice ab nb cb, .agg #[.int .u64 (en : Nat), .int .u64 (so : Nat), .int .u64 (sc : Nat), .slice a1 zs.length p1, .slice a2 cs.length p2], .agg #[.int .u32 (s0 : Nat), .int .u32 (s1 : Nat), .int .u64 (s2 : Nat), .int .u64 (s3 : Nat), .int .u64 (s4 : Nat), .int .u64 (s5 : Nat), .int .u64 (s6 : Nat)], .agg #[.int .u32 (c0 : Nat), .int .u64 (c1 : Nat), .int .u64 (c2 : Nat), .int .u32 (c3 : Nat), .int .u64 (c4 : Nat)]] w fun e W' => e = .returned (.bool true) ∧ Below w.heap.size w W' :=
  tells3_walk ab nb cb zb en so sc zs.length cs.length a1 a2 p1 p2 (s0, s1, s2, s3, s4, s5, s6) (c0, c1, c2, c3, c4) hb.2.1 hb.2.2.1 hb.2.2.2 hs hc w hG hb.bs
end Go.Proofs.YtnaggdhophncaaaDoor
