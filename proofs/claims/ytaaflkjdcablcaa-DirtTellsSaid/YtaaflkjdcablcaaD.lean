/- dirt: ranges sorted by their lowest addresses. -/
import Derived.Shelf.SlSortCmp.NoneTotal
import Derived.Shelf.SlSortCmp.WholeK
import Derived.Shelf.Lay
import Derived.Shelf.SlGeneric
import Derived.Ground.SlsfProg
import Derived.Test.YtaaflkjdcablcaaC
namespace Go.Proofs
shelf_lay_g SlLaysF0.n6 Slsf 6 at Try 32 as Try.sortRg
end Go.Proofs
namespace Go.Proofs.Ytaaflkjdcablcaa
open Go.RowKit Go.Shelf Go.Lib Go.Sort
set_option linter.unusedVariables false
set_option linter.unusedSimpArgs false
attribute [local go_sem] Oper.semAt_some
def cmpN (x y : Nat) : Int := if x < y then -1 else if y < x then 1 else 0
theorem isnan_any (x : Nat) (w : World) : Calls Try.prog 46 #[.int .u64 (x : Nat)] w fun e w' => e = .returned (.bool false) ∧ w' = w := by
  go_enter Try.func46, Try.ntmps46
  go_wp
  go_ret
  exact ⟨by simp, rfl⟩
theorem compare_any (x y : Nat) (w : World) : Calls Try.prog 34 #[.int .u64 (x : Nat), .int .u64 (y : Nat)] w fun e w' => e = .returned (.int .i64 (cmpN x y)) ∧ w' = w := by
  have h1 := Lib.hid (fun w => isnan_any x w)
  have h2 := Lib.hid (fun w => isnan_any y w)
  by_cases hlt : x < y
  · have hc : cmpN x y = -1 := by unfold cmpN; rw [if_pos hlt]
    rw [hc]
    go_enter Try.func34, Try.ntmps34
    go_wp2_with (first | (go_at_call 46; refine (h1.out _).mono ?_; rintro e w' ⟨rfl, rfl⟩) | (go_at_call 46; refine (h2.out _).mono ?_; rintro e w' ⟨rfl, rfl⟩) | fail)
    go_ret
    exact ⟨rfl, rfl⟩
  by_cases hgt : y < x
  · have hc : cmpN x y = 1 := by unfold cmpN; rw [if_neg hlt, if_pos hgt]
    rw [hc]
    go_enter Try.func34, Try.ntmps34
    go_wp2_with (first | (go_at_call 46; refine (h1.out _).mono ?_; rintro e w' ⟨rfl, rfl⟩) | (go_at_call 46; refine (h2.out _).mono ?_; rintro e w' ⟨rfl, rfl⟩) | fail)
    go_ret
    exact ⟨rfl, rfl⟩
  · have hc : cmpN x y = 0 := by unfold cmpN; rw [if_neg hlt, if_neg hgt]
    rw [hc]
    go_enter Try.func34, Try.ntmps34
    go_wp2_with (first | (go_at_call 46; refine (h1.out _).mono ?_; rintro e w' ⟨rfl, rfl⟩) | (go_at_call 46; refine (h2.out _).mono ?_; rintro e w' ⟨rfl, rfl⟩) | fail)
    go_ret
    exact ⟨rfl, rfl⟩
theorem closure_any (x y : Rg) (W : World) : Calls Try.prog 33 #[.agg x.cs.toArray, .agg y.cs.toArray] W fun e w' => e = .returned (.int .i64 (cmpN x.1 y.1)) ∧ ∃ q os', w' = grow (W.drewN q) os' := by
  have hcon := Lib.hid (fun w => compare_any x.1 y.1 w)
  generalize cmpN x.1 y.1 = r at hcon ⊢
  show Calls Try.prog 33 #[.agg #[.int .u64 (x.1 : Nat), .int .u64 (x.2 : Nat)], .agg #[.int .u64 (y.1 : Nat), .int .u64 (y.2 : Nat)]] W _
  go_enter Try.func33, Try.ntmps33
  go_wp2_with (first | (go_at_call 34; refine (hcon.out _).mono ?_; rintro e w' ⟨rfl, rfl⟩) | fail)
  go_ret
  exact ⟨rfl, 0, _, by rw [alloc_eq_grow, alloc_eq_grow, grow_grow]; rfl⟩
def cfR (x y : Rg) : Int := cmpN x.1 y.1
theorem lays33 (blk off size : Nat) (w : World) : CmpLays Try.prog 33 #[] Rg.cs 2 cfR blk off size w := fun _ _ _ _ x y => closure_any x y _
theorem ltR (x y : Rg) : ltOf cfR x y = decide (x.1 < y.1) := by
  unfold ltOf cfR cmpN
  by_cases h1 : x.1 < y.1
  · simp [h1]
  · by_cases h2 : y.1 < x.1 <;> simp [h1, h2]
theorem swoR : SWO (ltOf cfR) where
  irrefl x := by rw [ltR]; simp
  trans x y z h1 h2 := by rw [ltR] at *; simp at *; omega
  ntrans x y z h1 h2 := by rw [ltR] at *; simp at *; omega
theorem sort_raw (blk off cap : Nat) (d : Array Rg) (w : World) (hH : HoldsK Rg.cs 2 w blk off d) (hblk : blk < w.heap.size) (hsz : d.size < 4611686018427387904) :
    Calls Try.prog 32 #[.slice (some ⟨blk, off, none⟩) d.size cap, .func (.func 33) #[] #[]] w fun e w' => e = .returned (.tuple #[]) ∧ ∃ d' n os, PermIn 0 d.size d d' ∧ SortedIn (ltOf cfR) 0 d.size d' ∧ w' = sortWorldK Rg.cs 2 w blk off n d' os := by
  have eg : ∀ args w, (callFunc 33 args).run Try.prog w = .ok (.enter 33 args) w := enters_of Try.func33 (by kernel_rfl) rfl
  have hcon := AnyQ.slices_SortFunc Try.sortRg 2 Try.isAgg25 Try.sizeOf25 Rg.cs (fun _ => rfl) (fun x v hv => ones_x x v hv) cfR swoR 33 #[] blk off cap d w eg (lays33 blk off d.size w) hH hblk hsz
  exact hcon
theorem sort_none (p : Option Addr) (cap : Nat) (fv : Value) (w : World) : Calls Try.prog 32 #[.slice p 0 cap, fv] w fun e w' => e = .returned (.tuple #[]) ∧ w' = w :=
  AnyF.slices_SortFunc_none { Try.sortRg with } p cap fv w
end Go.Proofs.Ytaaflkjdcablcaa
