/- The walk of BitsBack. -/
import Derived.Test.YtjnojonbaoecmaaDoorMath
import Derived.Test.YtjnojonbaoecmaaDoorWakes
import Derived.Test.YtjnojonbaoecmaaDoorLaid
namespace Go.Proofs.YtjnojonbaoecmaaDoor
open Go.RowKit
theorem number_bytes (a b : Nat) (wd : Int) (w : World) (hc : ∀ j, j < hN wd → w.cell? ⟨b, 0 + j, none⟩ = some (.int .u8 (byN a j : Nat))) :
    Calls Tryd.prog 27 #[.slice (some ⟨b, 0, none⟩) (hN wd) (hN wd)] w fun e w' => e = .returned (.int .u64 (cN a wd : Nat)) ∧ w = w' := by
  have hb := hN_bd wd
  refine (number_any b 0 (hN wd) (hN wd) (byN a) (byN_lt a) w hc (Nat.le_refl _)).mono fun e w' ⟨h1, h2⟩ => ⟨?_, h2.symm⟩
  rw [h1, Nat.min_eq_left (by omega), numN_byN]; rfl
theorem turn_below (a : Nat) (ha : U a) (n : Int) (wd : Int) (w : World) (hm : Mk w) :
    Calls Tryd.prog 23 #[.int .u64 a, .int .i64 n, .int .i64 wd] w fun e w' => e = .returned (.int .u64 (turnN a (tN n wd) wd : Nat)) ∧ Mk w' ∧ Below w.heap.size w w' :=
  (turn_any a ha n wd w hm).mono fun e w' ⟨h, k, hw⟩ => ⟨h, by rw [hw]; exact hm.drewN k, by rw [hw]; exact below_drewN (Below.refl _ _) k⟩
theorem cell0 {b j : Nat} {w : World} {v : Value} (h : w.cell? ⟨b, j, none⟩ = some v) : w.cell? ⟨b, 0 + j, none⟩ = some v := by rw [Nat.zero_add]; exact h
theorem hN_parts (wd : Int) : (wd < 1 ∧ (((hN wd : Nat) : Int) == 1) = true) ∨ (8 < wd ∧ (((hN wd : Nat) : Int) == 8) = true) ∨ (1 ≤ wd ∧ wd ≤ 8 ∧ (((hN wd : Nat) : Int) == wd) = true) := by
  simp only [beq_iff_eq]
  rw [← hI_N]; unfold hI
  repeat' split
  all_goals omega
set_option maxHeartbeats 2000000 in
theorem law_back (a b : Nat) (ha : U a) (hb : U b) (wd n : Int) (c : Bool) (w : World) (hm : Mk w) (hn1 : n ≤ 1099511627776) (hn2 : -1099511627776 ≤ n) :
    Calls Tryd.prog 4 #[.int .u64 a, .int .u64 b, .int .i64 wd, .int .i64 n, .bool c] w fun e w' => e = .returned (.bool true) ∧ Below w.heap.size w w' := by
  have h1 := Lib.hid (back_sum a b c wd)
  have h2 := Lib.hid (back_out a b c wd)
  have h3 := Lib.hid (turn_back a n wd)
  have h4 := Lib.hid (ext_ext a wd)
  have hz := hm.pos
  have huT := turn_U a (tN n wd) wd (tN_lt n wd)
  have huE := eN_U a ha wd
  rcases hN_parts wd with ⟨hw, hl⟩ | ⟨hw, hl⟩ | ⟨hw, hw', hl⟩
  all_goals
    go_enter Tryd.func4, Tryd.ntmps4
    go_wp2_with fail
    go_at_call 25
    refine (bytes_any _ _ _).mono ?_
    rintro e w2 ⟨rfl, hcs, hb2⟩
    have HCS := Lib.hid (fun j hj => cell0 (hcs j hj)); clear hcs
    have hm2 : Mk w2 := hm.below hb2 hz
    go_wp2_with (first | (go_at_call 9; refine (add_any _ _ (by assumption) (by assumption) _ _ _ hm2).mono ?_; rintro e w' ⟨rfl, rfl⟩) | (go_at_call 11; refine (sub_any _ _ (addR_U _ _ _ _) (by assumption) _ _ _ hm2).mono ?_; rintro e w' ⟨rfl, rfl⟩))
    go_at_call 27
    refine (number_bytes a _ wd _ HCS.out).mono ?_
    rintro e w3 ⟨rfl, rfl⟩
    have g1 := h1.out
    have g2 := h2.out
    go_wp2_with (go_at_call 15; refine (cut_any _ (by assumption) _ _ hm2).mono ?_; rintro e w' ⟨rfl, rfl⟩)
    go_at_call 23
    (with_reducible refine (turn_below _ (by assumption) _ _ _ hm2).mono ?_)
    rintro e w3 ⟨rfl, hm3, hb3⟩
    have g3 := h3.out
    go_wp2_with fail
    go_at_call 23
    (with_reducible refine (turn_below _ huT _ _ _ hm3).mono ?_)
    rintro e w4 ⟨rfl, hm4, hb4⟩
    have g4 := h4.out
    go_wp2_with (first | (go_at_call 15; ((with_reducible refine (cut_any _ (by assumption) _ _ hm4).mono ?_); rintro e w' ⟨rfl, rfl⟩)) | (go_at_call 19; ((with_reducible refine (ext_any _ (by assumption) _ _ hm4).mono ?_); rintro e w' ⟨rfl, rfl⟩)) | (go_at_call 8; ((with_reducible refine (wakes_any _ hm4).mono ?_); rintro e w' ⟨rfl, hbw⟩)))
    go_ret
    exact ⟨rfl, hb2.trans ((hb3.mono hb2.size).trans ((hb4.mono (Nat.le_trans hb2.size hb3.size)).trans (hbw.mono (Nat.le_trans hb2.size (Nat.le_trans hb3.size hb4.size)))))⟩
set_option maxHeartbeats 1000000 in
theorem law_back_far (a b : Nat) (ha : U a) (hb : U b) (wd n : Int) (c : Bool) (w : World) (hm : Mk w) (hn : 1099511627776 < n ∨ (n ≤ 1099511627776 ∧ n < -1099511627776)) :
    Calls Tryd.prog 4 #[.int .u64 a, .int .u64 b, .int .i64 wd, .int .i64 n, .bool c] w fun e w' => e = .returned (.bool true) ∧ Below w.heap.size w w' := by
  have hz := hm.pos
  rcases hn with hn | ⟨hn1, hn2⟩
  all_goals
    go_enter Tryd.func4, Tryd.ntmps4
    go_wp2_with fail
    go_at_call 25
    refine (bytes_any _ _ _).mono ?_
    rintro e w2 ⟨rfl, hcs, hb2⟩
    clear hcs
    have hm2 : Mk w2 := hm.below hb2 hz
    go_wp2_with (first | (go_at_call 9; refine (add_any _ _ (by assumption) (by assumption) _ _ _ hm2).mono ?_; rintro e w' ⟨rfl, rfl⟩) | (go_at_call 11; refine (sub_any _ _ (addR_U _ _ _ _) (by assumption) _ _ _ hm2).mono ?_; rintro e w' ⟨rfl, rfl⟩) | (go_at_call 8; ((with_reducible refine (wakes_any _ hm2).mono ?_); rintro e w' ⟨rfl, hbw⟩)))
    go_ret
    exact ⟨rfl, hb2.trans (hbw.mono hb2.size)⟩
theorem walkIn_back (a0 a1 a2 a3 : Int) (a4 : Bool) (w0 : (Lit.int .u64 a0).wf = true) (w1 : (Lit.int .u64 a1).wf = true) (_ : (Lit.int .i64 a2).wf = true) (_ : (Lit.int .i64 a3).wf = true) (w : World) (hm : Mk w) : Calls Tryd.prog 4 #[.int .u64 a0, .int .u64 a1, .int .i64 a2, .int .i64 a3, .bool a4] w fun e w' => e = .returned (.bool true) ∧ Below w.heap.size w w' := by
  obtain ⟨k, rfl, hk⟩ := nat_of_wf w0
  obtain ⟨j, rfl, hj⟩ := nat_of_wf w1
  by_cases h : a3 ≤ 1099511627776 ∧ -1099511627776 ≤ a3
  · exact law_back k j hk hj a2 a3 a4 w hm h.1 h.2
  · exact law_back_far k j hk hj a2 a3 a4 w hm (by omega)
end Go.Proofs.YtjnojonbaoecmaaDoor
