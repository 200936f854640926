/- DirtHas' walk over what comes in. -/
import Derived.Test.YtaaflkjdcablcaaHb
import Derived.Test.YtaaflkjdcablcaaPr
namespace Go.Proofs.Ytaaflkjdcablcaa
open Go.RowKit Go.Shelf
set_option linter.unusedVariables false
set_option linter.unusedSimpArgs false
attribute [local go_sem] Oper.semAt_some
theorem has_walk (a : Option Addr) (n cap : Nat) (zs : List Rg) (a2 : Option Addr) (n2 cap2 : Nat) (z2 : List Rg) (r : Rg) (x : Int) (hr : U r.1 ∧ U r.2) (hx : (Lit.int .u64 x).wf = true) (w : World)
    (h1 : OkL zs ∧ zs.length = n ∧ (a = none → cap = 0) ∧ RD w a zs) (h2 : OkL z2 ∧ z2.length = n2 ∧ (a2 = none → cap2 = 0) ∧ RD w a2 z2) :
    Calls Try.prog 4 #[.slice a n cap, .slice a2 n2 cap2, .agg #[.int .u64 (r.1 : Nat), .int .u64 (r.2 : Nat)], .int .u64 x] w fun e w' => e = .returned (.bool true) ∧ Below w.heap.size w w' := by
  have b := Go.bounds_u64 hx
  obtain ⟨y, rfl⟩ := Int.eq_ofNat_of_zero_le b.1
  exact has_law a n cap zs h1.1 h1.2.1 h1.2.2.1 a2 n2 cap2 z2 h2.1 h2.2.1 h2.2.2.1 r.1 r.2 y hr.1 hr.2 w h1.2.2.2 h2.2.2.2
end Go.Proofs.Ytaaflkjdcablcaa
