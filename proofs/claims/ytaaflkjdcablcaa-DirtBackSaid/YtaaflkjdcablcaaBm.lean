/- DirtBack's walk over what comes in. -/
import Derived.Test.YtaaflkjdcablcaaBl
import Derived.Test.YtaaflkjdcablcaaPr
namespace Go.Proofs.Ytaaflkjdcablcaa
open Go.RowKit Go.Shelf
set_option linter.unusedVariables false
set_option linter.unusedSimpArgs false
attribute [local go_sem] Oper.semAt_some
set_option maxRecDepth 100000 in
set_option maxHeartbeats 8000000 in
theorem back_great (a : Option Addr) (n cap : Nat) (lo hi : Nat) (hg : 60 < n) (w : World) :
    Calls Try.prog 6 #[.slice a n cap, .agg #[.int .u64 (lo : Nat), .int .u64 (hi : Nat)]] w fun e w' => e = .returned (.bool true) ∧ Below w.heap.size w w' := by
  have hb0 := (Below.refl w.heap.size w).alloc (Nat.le_refl _) (.cells #[.int .u64 (lo : Nat), .int .u64 (hi : Nat)] 25)
  have HB := Lib.hid hb0
  clear hb0
  go_enter Try.func6, Try.ntmps6
  go_upto_region 1 with fail
  generalize World.alloc w _ = W1 at HB ⊢
  go_wp2_with (first | (go_at_call 7; refine (wakes_any _).mono ?_) | fail)
  first | (rintro e W3 rfl hb) | (rintro e W3 ⟨rfl, hb⟩)
  have HF := Lib.hid (HB.out.trans (hb.mono HB.out.size))
  clear hb
  go_wp2_with fail
  go_ret
  exact ⟨rfl, HF.out⟩
theorem back_walk (a : Option Addr) (n cap : Nat) (zs : List Rg) (r : Rg) (hr : U r.1 ∧ U r.2) (w : World)
    (h1 : OkL zs ∧ zs.length = n ∧ (a = none → cap = 0) ∧ RD w a zs) :
    Calls Try.prog 6 #[.slice a n cap, .agg #[.int .u64 (r.1 : Nat), .int .u64 (r.2 : Nat)]] w fun e w' => e = .returned (.bool true) ∧ Below w.heap.size w w' := by
  by_cases hn : n ≤ 60
  · exact back_small a n cap zs hn r.1 r.2 hr.1 hr.2 w ⟨h1.2.1, h1.2.2.2, by omega, h1.1, h1.2.2.1⟩
  · exact back_great a n cap r.1 r.2 (by omega) w
end Go.Proofs.Ytaaflkjdcablcaa
