/- The walk of AluSigned. -/
import Derived.Test.YtmfoeolllobidaaDoorIsigned
import Derived.Test.YtmfoeolllobidaaDoorImath2
namespace Go.Proofs.YtmfoeolllobidaaDoor
open Go.RowKit
theorem law_isigned (a b : Nat) (ha : U a) (hb : U b) (wd : Int) (w : World) (hm : Mk w) (hn1 : ¬ wd < 1) (hn2 : ¬ 4 < wd) :
    Calls Tryd.prog 7 #[.int .i64 wd, .int .u64 a, .int .u64 b] w fun e w' => e = .returned (.bool true) ∧ Below w.heap.size w w' := by
  have hn := subR_U 0 a false wd
  have hr : U (iR a b wd) := cN_U _ (iLo_U a b wd) wd
  have hM := fun V hV => amul_any a b ha hb wd V hV
  rw [← iR_low] at hM
  have hI2 := fun V hV => aimul_any (subR 0 a false wd) b hn hb wd V hV
  rw [back_prod] at hI2
  exact isigned_core a b wd (iR a b wd) (highM a b wd) _ _ (eN a wd) (eN b wd) (eN (iR a b wd) wd) (cN a wd) (cN b wd) (iC a b wd) _ _ _ (hBM a b wd) _ _ _ _ _ _ _ _ _ _ _ _ _ _ _ _ _ _
    (fun V hV => aimul_any a b ha hb wd V hV) hM (fun W => rext_any a ha wd W) (fun W => rext_any b hb wd W) (fun W => rext_any _ hr wd W)
    (fun W => rcut_any a ha wd W) (fun W => rcut_any b hb wd W) (fun W hW => aneg_any a ha wd W hW) hI2 (fun W hW => aneg_any _ hr wd W hW)
    (fits_val a b ha hb wd hn1 hn2) (whole_val a b wd hn1 hn2) rfl w hm hn1 hn2
set_option maxHeartbeats 400000 in
theorem law_isigned_out (a b : Nat) (wd : Int) (w : World) (hm : Mk w) (hn : wd < 1 ∨ (¬ wd < 1 ∧ 4 < wd)) :
    Calls Tryd.prog 7 #[.int .i64 wd, .int .u64 a, .int .u64 b] w fun e w' => e = .returned (.bool true) ∧ Below w.heap.size w w' := by
  rcases hn with hn | ⟨hn, hn2⟩
  all_goals
    go_enter Tryd.func7, Tryd.ntmps7
    go_wp2_with (go_at_call 28; ((with_reducible refine (wakes_any _ hm).mono ?_); rintro e w8 ⟨rfl, hb8⟩))
    go_ret
    exact ⟨rfl, by assumption⟩
theorem walkIn_isigned (a0 a1 a2 : Int) (_ : (Lit.int .i64 a0).wf = true) (w1 : (Lit.int .u64 a1).wf = true) (w2 : (Lit.int .u64 a2).wf = true) (w : World) (hm : Mk w) : Calls Tryd.prog 7 #[.int .i64 a0, .int .u64 a1, .int .u64 a2] w fun e w' => e = .returned (.bool true) ∧ Below w.heap.size w w' := by
  obtain ⟨k, rfl, hk⟩ := nat_of_wf w1
  obtain ⟨j, rfl, hj⟩ := nat_of_wf w2
  by_cases h : a0 < 1
  · exact law_isigned_out k j a0 w hm (.inl h)
  · by_cases h2 : 4 < a0
    · exact law_isigned_out k j a0 w hm (.inr ⟨h, h2⟩)
    · exact law_isigned k j hk hj a0 w hm h h2
end Go.Proofs.YtmfoeolllobidaaDoor
