/- DirtHas' walk, whole. -/
import Derived.Test.YtaaflkjdcablcaaHa
namespace Go.Proofs.Ytaaflkjdcablcaa
open Go.RowKit Go.Shelf
set_option linter.unusedVariables false
set_option linter.unusedSimpArgs false
attribute [local go_sem] Oper.semAt_some
theorem has_law (a : Option Addr) (n cap : Nat) (zs : List Rg) (hz : OkL zs) (hzn : zs.length = n) (hc : a = none → cap = 0) (a2 : Option Addr) (n2 cap2 : Nat) (z2 : List Rg) (hz2 : OkL z2) (hzn2 : z2.length = n2) (hc2 : a2 = none → cap2 = 0) (lo hi x : Nat) (hlu : U lo) (hhu : U hi) (w : World) (hR : RD w a zs) (hR2 : RD w a2 z2) :
    Calls Try.prog 4 #[.slice a n cap, .slice a2 n2 cap2, .agg #[.int .u64 (lo : Nat), .int .u64 (hi : Nat)], .int .u64 (x : Nat)] w fun e w' => e = .returned (.bool true) ∧ Below w.heap.size w w' := by
  by_cases h : n ≤ 60 ∧ n2 ≤ 60
  · exact has_small a n cap zs hz hzn h.1 hc a2 n2 cap2 z2 hz2 hzn2 h.2 hc2 lo hi x hlu hhu w hR hR2
  · exact has_great a n cap a2 n2 cap2 lo hi x (by omega) w
end Go.Proofs.Ytaaflkjdcablcaa
