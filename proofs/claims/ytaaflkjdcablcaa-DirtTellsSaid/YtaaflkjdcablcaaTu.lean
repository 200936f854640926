/- DirtTells' walk over what comes in. -/
import Derived.Test.YtaaflkjdcablcaaTt
import Derived.Test.YtaaflkjdcablcaaPr
namespace Go.Proofs.Ytaaflkjdcablcaa
open Go.RowKit Go.Shelf
set_option linter.unusedVariables false
set_option linter.unusedSimpArgs false
attribute [local go_sem] Oper.semAt_some
set_option maxRecDepth 100000 in
set_option maxHeartbeats 8000000 in
theorem tells_great (a : Option Addr) (n cap : Nat) (a2 : Option Addr) (n2 cap2 : Nat) (lo hi x : Nat) (hg : 60 < n ∨ 60 < n2) (w : World) :
    Calls Try.prog 3 #[.slice a n cap, .slice a2 n2 cap2, .agg #[.int .u64 (lo : Nat), .int .u64 (hi : Nat)], .int .u64 (x : Nat)] w fun e w' => e = .returned (.bool true) ∧ Below w.heap.size w w' := by
  have HG := Lib.hid hg
  have hb0 := (Below.refl w.heap.size w).alloc (Nat.le_refl _) (.cells #[.int .u64 (lo : Nat), .int .u64 (hi : Nat)] 25)
  have HB := Lib.hid hb0
  clear hb0 hg
  go_enter Try.func3, Try.ntmps3
  go_upto_region 1 with fail
  generalize World.alloc w _ = W1 at HB ⊢
  have hg := HG.out
  go_wp2_with (first | (go_at_call 7; refine (wakes_any _).mono ?_) | fail)
  first | (rintro e W3 rfl hb) | (rintro e W3 ⟨rfl, hb⟩)
  have HF := Lib.hid (HB.out.trans (hb.mono HB.out.size))
  clear hb
  go_wp2_with fail
  go_ret
  exact ⟨rfl, HF.out⟩
theorem tells_walk (a : Option Addr) (n cap : Nat) (zs : List Rg) (a2 : Option Addr) (n2 cap2 : Nat) (z2 : List Rg) (r : Rg) (x : Int) (hr : U r.1 ∧ U r.2) (hx : (Lit.int .u64 x).wf = true) (w : World)
    (h1 : OkL zs ∧ zs.length = n ∧ (a = none → cap = 0) ∧ RD w a zs) (h2 : OkL z2 ∧ z2.length = n2 ∧ (a2 = none → cap2 = 0) ∧ RD w a2 z2) :
    Calls Try.prog 3 #[.slice a n cap, .slice a2 n2 cap2, .agg #[.int .u64 (r.1 : Nat), .int .u64 (r.2 : Nat)], .int .u64 x] w fun e w' => e = .returned (.bool true) ∧ Below w.heap.size w w' := by
  have b := Go.bounds_u64 hx
  obtain ⟨y, rfl⟩ := Int.eq_ofNat_of_zero_le b.1
  by_cases h : n ≤ 60 ∧ n2 ≤ 60
  · exact tells_small a n cap zs h.1 a2 n2 cap2 z2 h.2 r.1 r.2 y hr.1 hr.2 w ⟨h1.2.1, h1.2.2.2, by omega, h1.1, h1.2.2.1⟩ ⟨h2.2.1, h2.2.2.2, by omega, h2.1, h2.2.2.1⟩
  · exact tells_great a n cap a2 n2 cap2 r.1 r.2 y (by omega) w
end Go.Proofs.Ytaaflkjdcablcaa
