/- The contracts of package bits' functions that make no memory. -/
import Derived.Test.YtkpnafgmjcnniaaDoorRows
import Derived.WalkKit
import Derived.WalkSpells
import Derived.WalkLawsBesides
import Derived.Handy
import Derived.Lib.Hide
namespace Go.Proofs.YtkpnafgmjcnniaaDoor
open Go.RowKit

/-- A width, held to one from 1 to 8. -/
def hI (wd : Int) : Int := if wd < 1 then 1 else if 8 < wd then 8 else wd
theorem hI_bd (wd : Int) : 1 ≤ hI wd ∧ hI wd ≤ 8 := by unfold hI; split <;> (try split) <;> omega
def hN (wd : Int) : Nat := (hI wd).toNat
theorem hN_bd (wd : Int) : 1 ≤ hN wd ∧ hN wd ≤ 8 := by have := hI_bd wd; unfold hN; omega
theorem hI_N (wd : Int) : hI wd = (hN wd : Int) := by have := hI_bd wd; unfold hN; omega
/-- The mask of a width. -/
def mI (wd : Int) : Int := 2 ^ (8 * hN wd) - 1

/-- A word of 64 bits. -/
def U (a : Nat) : Prop := a < 18446744073709551616

def Mk (w : World) : Prop := ∀ i : Nat, i < 8 → w.cell? ⟨0, i, none⟩ = some (.int .u64 ((2 : Int) ^ (8 * (i + 1)) - 1))
theorem Mk.at {w : World} (h : Mk w) (wd : Int) : w.cell? ⟨0, (hI wd).toNat - 1, none⟩ = some (.int .u64 (mI wd)) := by
  have hb := hI_bd wd
  have := h ((hI wd).toNat - 1) (by omega)
  rw [this]
  have e : (hI wd).toNat - 1 + 1 = hN wd := by unfold hN; omega
  rw [e]; rfl

set_option maxHeartbeats 400000 in
theorem held_any (wd : Int) (w : World) :
    Calls Tryd.prog 71 #[.int .i64 wd] w fun e w' => e = .returned (.int .i64 (hI wd)) ∧ w = w' := by
  go_enter Tryd.func71, Tryd.ntmps71
  go_wp2
  all_goals
    go_ret
    refine ⟨?_, rfl⟩
    show Ending.returned (.int .i64 _) = _
    congr 2
    unfold hI
    repeat' split
    all_goals omega

set_option maxHeartbeats 400000 in
theorem mask_any (wd : Int) (w : World) (hm : Mk w) :
    Calls Tryd.prog 77 #[.int .i64 wd] w fun e w' => e = .returned (.int .u64 (mI wd)) ∧ w = w' := by
  have hb := hI_bd wd
  have hc := hm.at wd
  clear hm
  go_enter Tryd.func77, Tryd.ntmps77
  go_wp2_with (go_at_call 71; refine (held_any _ _).mono ?_; rintro e w' ⟨rfl, rfl⟩)
  go_ret
  exact ⟨rfl, rfl⟩

theorem and_mask (a : Nat) (ha : a < 18446744073709551616) (k : Nat) (hk : k ≤ 64) : bits .and .u64 (a : Int) (2 ^ k - 1) = ((a % 2 ^ k : Nat) : Int) := by
  have e : ((2 : Int) ^ k - 1) = ((2 ^ k - 1 : Nat) : Int) := by
    have : 0 < 2 ^ k := Nat.two_pow_pos k
    rw [Int.natCast_sub this]; simp
  have hlt : 2 ^ k - 1 < 18446744073709551616 := by
    have : 2 ^ k ≤ 2 ^ 64 := Nat.pow_le_pow_right (by decide) hk
    have h0 : 0 < 2 ^ k := Nat.two_pow_pos k
    have e64 : (2 : Nat) ^ 64 = 18446744073709551616 := by decide
    omega
  rw [e, u64_and_nat a _ ha hlt, Nat.and_two_pow_sub_one_eq_mod]

/-- A word cut to a width. -/
def cN (a : Nat) (wd : Int) : Nat := a % 2 ^ (8 * hN wd)
theorem cN_U (a : Nat) (ha : U a) (wd : Int) : U (cN a wd) := Nat.lt_of_le_of_lt (Nat.mod_le _ _) ha

set_option maxHeartbeats 400000 in
theorem cut_any (a : Nat) (ha : U a) (wd : Int) (w : World) (hm : Mk w) :
    Calls Tryd.prog 78 #[.int .u64 a, .int .i64 wd] w fun e w' => e = .returned (.int .u64 (cN a wd : Nat)) ∧ w = w' := by
  have hb := hN_bd wd
  have H : Hid (bits .and .u64 (a : Int) (mI wd) = ((cN a wd : Nat) : Int)) := and_mask a ha (8 * hN wd) (by omega)
  clear hb
  go_enter Tryd.func78, Tryd.ntmps78
  go_wp2_with (go_at_call 77; refine (mask_any _ _ hm).mono ?_; rintro e w' ⟨rfl, rfl⟩)
  go_ret
  exact ⟨by rw [← H.out]; rfl, rfl⟩


theorem sign_val (a : Nat) (ha : a < 18446744073709551616) (wd : Int) :
    (bits .and .u64 ((a : Int) / 2 ^ ((8 * hI wd).toNat - 1)) 1 == 1) = decide (a / 2 ^ (8 * hN wd - 1) % 2 = 1) := by
  have e : (8 * hI wd).toNat - 1 = 8 * hN wd - 1 := by have := hI_bd wd; unfold hN; omega
  have hlt : a / 2 ^ (8 * hN wd - 1) < 18446744073709551616 := Nat.lt_of_le_of_lt (Nat.div_le_self _ _) ha
  have e2 : ((a : Int) / 2 ^ (8 * hN wd - 1)) = ((a / 2 ^ (8 * hN wd - 1) : Nat) : Int) := by rw [Int.natCast_ediv]; simp
  rw [e, e2]
  have := u64_and_nat (a / 2 ^ (8 * hN wd - 1)) 1 hlt (by decide)
  rw [show ((1 : Int)) = ((1 : Nat) : Int) from rfl, this, Nat.and_one_is_mod]
  generalize a / 2 ^ (8 * hN wd - 1) % 2 = y
  rw [Bool.eq_iff_iff]; simp; omega

/-- Is the highest bit of the width 1? -/
def sB (a : Nat) (wd : Int) : Bool := decide (a / 2 ^ (8 * hN wd - 1) % 2 = 1)
set_option maxHeartbeats 400000 in
theorem sign_any (a : Nat) (ha : U a) (wd : Int) (w : World) :
    Calls Tryd.prog 76 #[.int .u64 a, .int .i64 wd] w fun e w' => e = .returned (.bool (sB a wd)) ∧ w = w' := by
  have hb := hI_bd wd
  have H := Lib.hid (sign_val a ha wd)
  clear ha
  go_enter Tryd.func76, Tryd.ntmps76
  go_wp2_with (go_at_call 71; refine (held_any _ _).mono ?_; rintro e w' ⟨rfl, rfl⟩)
  go_ret
  exact ⟨congrArg Ending.returned (congrArg Value.bool H.out), rfl⟩

theorem mI_nat (wd : Int) : mI wd = ((2 ^ (8 * hN wd) - 1 : Nat) : Int) := by
  unfold mI
  have : 0 < 2 ^ (8 * hN wd) := Nat.two_pow_pos _
  rw [Int.natCast_sub this]; simp
theorem mN_lt (wd : Int) : 2 ^ (8 * hN wd) ≤ 18446744073709551616 := by
  have hb := hN_bd wd
  have : 2 ^ (8 * hN wd) ≤ 2 ^ 64 := Nat.pow_le_pow_right (by decide) (by omega)
  have e64 : (2 : Nat) ^ 64 = 18446744073709551616 := by decide
  omega
/-- A word cut, with its sign through all 64 bits. -/
def eN (a : Nat) (wd : Int) : Nat := if sB a wd then a ||| (18446744073709551615 ^^^ (2 ^ (8 * hN wd) - 1)) else cN a wd
theorem ext_val (a : Nat) (ha : U a) (wd : Int) : bits BinOp.or IntKind.u64 (↑a) (bits BinOp.xor IntKind.u64 IntKind.u64.max (mI wd)) = ((a ||| (18446744073709551615 ^^^ (2 ^ (8 * hN wd) - 1)) : Nat) : Int) := by
  have hm := mN_lt wd
  have h0 : 0 < 2 ^ (8 * hN wd) := Nat.two_pow_pos _
  have e : IntKind.u64.max = ((18446744073709551615 : Nat) : Int) := by decide
  rw [e, mI_nat, u64_xor_nat _ _ (by decide) (by omega), u64_or_nat _ _ ha]
  exact Nat.xor_lt_two_pow (n := 64) (by decide) (by have e64 : (2 : Nat) ^ 64 = 18446744073709551616 := by decide
                                                     omega)

set_option maxHeartbeats 400000 in
theorem ext_any (a : Nat) (ha : U a) (wd : Int) (w : World) (hm : Mk w) :
    Calls Tryd.prog 68 #[.int .u64 a, .int .i64 wd] w fun e w' => e = .returned (.int .u64 (eN a wd : Nat)) ∧ w = w' := by
  have H := Lib.hid (ext_val a ha wd)
  by_cases hs : sB a wd = true
  · go_enter Tryd.func68, Tryd.ntmps68
    go_wp2_with (first | (go_at_call 76; refine (sign_any _ (by assumption) _ _).mono ?_; rintro e w' ⟨rfl, rfl⟩) | (go_at_call 77; refine (mask_any _ _ hm).mono ?_; rintro e w' ⟨rfl, rfl⟩))
    go_ret
    refine ⟨congrArg Ending.returned (congrArg (Value.int IntKind.u64) ?_), rfl⟩
    rw [H.out]; unfold eN; rw [if_pos hs]
  · have hs' : sB a wd = false := by simpa using hs
    clear hs
    go_enter Tryd.func68, Tryd.ntmps68
    go_wp2_with (first | (go_at_call 76; refine (sign_any _ (by assumption) _ _).mono ?_; rintro e w' ⟨rfl, rfl⟩) | (go_at_call 78; refine (cut_any _ (by assumption) _ _ hm).mono ?_; rintro e w' ⟨rfl, rfl⟩))
    go_ret
    refine ⟨congrArg Ending.returned (congrArg (Value.int IntKind.u64) ?_), rfl⟩
    unfold eN; rw [hs']; rfl


end Go.Proofs.YtkpnafgmjcnniaaDoor
