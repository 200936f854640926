/- The contracts of the document's own answer for layer 1. -/
import Derived.Test.YtjnojonbaoecmaaDoorCount
import Derived.Test.YtjnojonbaoecmaaDoorSigned
namespace Go.Proofs.YtjnojonbaoecmaaDoor
open Go.RowKit
set_option maxHeartbeats 400000 in
theorem wide_any (wd : Int) (w : World) :
    Calls Tryd.prog 33 #[.int .i64 wd] w fun e w' => e = .returned (.int .i64 (hI wd)) ∧ w = w' := by
  go_enter Tryd.func33, Tryd.ntmps33
  go_wp2
  all_goals
    go_ret
    refine ⟨?_, rfl⟩
    show Ending.returned (.int .i64 _) = _
    congr 2
    unfold hI
    repeat' split
    all_goals omega
theorem mask_step (k : Nat) (hk : k < 64) : bits BinOp.or IntKind.u64 (2 ^ k - 1) (IntKind.u64.wrap (2 ^ k)) = 2 ^ (k + 1) - 1 := by
  have e64 : (2 : Nat) ^ 64 = 18446744073709551616 := by decide
  have h0 : 0 < 2 ^ k := Nat.two_pow_pos k
  have hl : 2 ^ k < 18446744073709551616 := by rw [← e64]; exact Nat.pow_lt_pow_right (by decide) hk
  have e1 : ((2 : Int) ^ k - 1) = ((2 ^ k - 1 : Nat) : Int) := by rw [Int.natCast_sub h0]; simp
  have e2 : IntKind.u64.wrap ((2 : Int) ^ k) = ((2 ^ k : Nat) : Int) := by
    rw [IntKind.wrap_u64, show ((2 : Int) ^ k) = ((2 ^ k : Nat) : Int) by simp]
    exact Int.emod_eq_of_lt (by omega) (by omega)
  have e3 : ((2 : Int) ^ (k + 1) - 1) = ((2 ^ (k + 1) - 1 : Nat) : Int) := by rw [Int.natCast_sub (Nat.two_pow_pos _)]; simp
  rw [e1, e2, e3, u64_or_nat _ _ (by omega) hl]
  congr 1
  rw [Nat.or_comm, nat_join k _ _ (Nat.mod_self _) (by omega), Nat.pow_succ]; omega
set_option maxHeartbeats 1000000 in
theorem rmask_any (wd : Int) (w : World) :
    Calls Tryd.prog 14 #[.int .i64 wd] w fun e w' => e = .returned (.int .u64 (mI wd)) ∧ w = w' := by
  have hb := hN_bd wd
  have hIN := hI_N wd
  go_enter Tryd.func14, Tryd.ntmps14
  go_wp2_with (go_at_call 33; refine (wide_any _ _).mono ?_; rintro e w' ⟨rfl, rfl⟩)
  go_loop [3, 4] (fun x i => ∃ k : Nat, k ≤ 8 * hN wd ∧ i = .int .i64 k ∧ x = .int .u64 (2 ^ k - 1)) (fun _ i => 8 * hN wd - (intOf i).toNat)
  case atStart => exact ⟨0, Nat.zero_le _, rfl, rfl⟩
  case round =>
    obtain ⟨k, hk, rfl, rfl⟩ := hrel
    by_cases hlt : k < 8 * hN wd
    · have HS := mask_step k (by omega)
      have hlt' : (k : Int) < 8 * hI wd := by omega
      go_wp2_with (go_at_call 33; refine (wide_any _ _).mono ?_; rintro e w' ⟨rfl, rfl⟩)
      go_round
      case rel => exact ⟨k + 1, by omega, by go_num, by go_num⟩
      case measure => simp [intOf]; omega
    · obtain rfl : k = 8 * hN wd := by omega
      have hlt' : ¬ ((8 * hN wd : Nat) : Int) < 8 * hI wd := by omega
      go_wp2_with (go_at_call 33; refine (wide_any _ _).mono ?_; rintro e w' ⟨rfl, rfl⟩)
      go_ret
      exact ⟨rfl, rfl⟩
set_option maxHeartbeats 400000 in
theorem rcut_any (a : Nat) (ha : U a) (wd : Int) (w : World) :
    Calls Tryd.prog 16 #[.int .u64 a, .int .i64 wd] w fun e w' => e = .returned (.int .u64 (cN a wd : Nat)) ∧ w = w' := by
  have hb := hN_bd wd
  have H : Hid (bits .and .u64 (a : Int) (mI wd) = ((cN a wd : Nat) : Int)) := and_mask a ha (8 * hN wd) (by omega)
  clear hb
  go_enter Tryd.func16, Tryd.ntmps16
  go_wp2_with (go_at_call 14; refine (rmask_any _ _).mono ?_; rintro e w' ⟨rfl, rfl⟩)
  go_ret
  exact ⟨by rw [← H.out]; rfl, rfl⟩
set_option maxHeartbeats 400000 in
theorem rsign_any (a : Nat) (ha : U a) (wd : Int) (w : World) :
    Calls Tryd.prog 18 #[.int .u64 a, .int .i64 wd] w fun e w' => e = .returned (.bool (sB a wd)) ∧ w = w' := by
  have hb := hI_bd wd
  have H := Lib.hid (sign_val a ha wd)
  clear ha
  go_enter Tryd.func18, Tryd.ntmps18
  go_wp2_with (go_at_call 33; refine (wide_any _ _).mono ?_; rintro e w' ⟨rfl, rfl⟩)
  go_ret
  exact ⟨congrArg Ending.returned (congrArg Value.bool H.out), rfl⟩
set_option maxHeartbeats 400000 in
theorem rext_any (a : Nat) (ha : U a) (wd : Int) (w : World) :
    Calls Tryd.prog 20 #[.int .u64 a, .int .i64 wd] w fun e w' => e = .returned (.int .u64 (eN a wd : Nat)) ∧ w = w' := by
  have hc := cN_U a ha wd
  have hsc := sB_cN a wd
  have hb := hN_bd wd
  have e := or_high a (8 * hN wd) ha (by omega)
  have e2 : cN a wd ||| (18446744073709551615 ^^^ (2 ^ (8 * hN wd) - 1)) = a ||| (18446744073709551615 ^^^ (2 ^ (8 * hN wd) - 1)) := by rw [e, Nat.or_comm]; rfl
  have H := Lib.hid (ext_val (cN a wd) hc wd)
  by_cases hs : sB a wd = true
  · rw [hs] at hsc
    have E : Hid (eN a wd = cN a wd ||| (18446744073709551615 ^^^ (2 ^ (8 * hN wd) - 1))) := by unfold eN; rw [if_pos hs, e2]; exact Lib.hid rfl
    clear e e2 hb
    go_enter Tryd.func20, Tryd.ntmps20
    go_wp2_with (first | (go_at_call 16; refine (rcut_any _ (by assumption) _ _).mono ?_; rintro e w' ⟨rfl, rfl⟩) | (go_at_call 18; refine (rsign_any _ (by assumption) _ _).mono ?_; rintro e w' ⟨rfl, rfl⟩) | (go_at_call 14; refine (rmask_any _ _).mono ?_; rintro e w' ⟨rfl, rfl⟩))
    go_ret
    refine ⟨congrArg Ending.returned (congrArg (Value.int IntKind.u64) ?_), rfl⟩
    rw [H.out, E.out]
  · have hs' : sB a wd = false := by simpa using hs
    rw [hs'] at hsc
    have E : Hid (eN a wd = cN a wd) := by unfold eN; rw [if_neg hs]; exact Lib.hid rfl
    clear e e2 hb hs
    go_enter Tryd.func20, Tryd.ntmps20
    go_wp2_with (first | (go_at_call 16; refine (rcut_any _ (by assumption) _ _).mono ?_; rintro e w' ⟨rfl, rfl⟩) | (go_at_call 18; refine (rsign_any _ (by assumption) _ _).mono ?_; rintro e w' ⟨rfl, rfl⟩) | (go_at_call 14; refine (rmask_any _ _).mono ?_; rintro e w' ⟨rfl, rfl⟩))
    go_ret
    refine ⟨congrArg Ending.returned (congrArg (Value.int IntKind.u64) ?_), rfl⟩
    rw [E.out]
theorem par_bits (a : Nat) : bS a.testBit 8 = popN (a % 256) := by
  simp only [bS, Nat.toNat_testBit, popN]
  omega
set_option maxHeartbeats 1000000 in
theorem rparity_any (a : Nat) (ha : U a) (w : World) :
    Calls Tryd.prog 22 #[.int .u64 a] w fun e w' => e = .returned (.bool (pB a)) ∧ w = w' := by
  have hp := Lib.hid (par_bits a)
  go_enter Tryd.func22, Tryd.ntmps22
  go_wp2_with fail
  go_loop [3, 4] (fun x i => ∃ k : Nat, k ≤ 8 ∧ i = .int .i64 k ∧ x = .int .i64 (bS a.testBit k : Nat)) (fun _ i => 8 - (intOf i).toNat)
  case atStart => exact ⟨0, Nat.zero_le _, rfl, rfl⟩
  case round =>
    obtain ⟨k, hk, rfl, rfl⟩ := hrel
    have b1 := bS_le a.testBit k
    by_cases hlt : k < 8
    · have hx := bit_val a k ha
      have t1 := Bool.toNat_le (a.testBit k)
      go_wp2
      go_round
      case rel => exact ⟨k + 1, by omega, by go_num, by simp only [bS]; go_num⟩
      case measure => simp [intOf]; omega
    · obtain rfl : k = 8 := by omega
      go_wp2
      go_ret
      refine ⟨congrArg Ending.returned (congrArg Value.bool ?_), rfl⟩
      unfold pB; rw [← hp.out]
      generalize bS a.testBit 8 = y at *
      rw [Bool.eq_iff_iff]; simp; omega
set_option maxHeartbeats 400000 in
theorem one_any (c : Bool) (w : World) :
    Calls Tryd.prog 32 #[.bool c] w fun e w' => e = .returned (.int .u64 (b1 c : Nat)) ∧ w = w' := by
  cases c
  all_goals
    go_enter Tryd.func32, Tryd.ntmps32
    go_wp2
    go_ret
    exact ⟨rfl, rfl⟩
end Go.Proofs.YtjnojonbaoecmaaDoor
