/- The contracts of package bits' functions that make no memory. -/
import Derived.Test.YtjnojonbaoecmaaDoorRows
import Derived.WalkKit
import Derived.WalkSpells
import Derived.WalkLawsBesides
import Derived.Handy
import Derived.Lib.Hide
namespace Go.Proofs.YtjnojonbaoecmaaDoor
open Go.RowKit

/-- A width, held to one from 1 to 8. -/
def hI (wd : Int) : Int := if wd < 1 then 1 else if 8 < wd then 8 else wd
theorem hI_bd (wd : Int) : 1 ≤ hI wd ∧ hI wd ≤ 8 := by unfold hI; split <;> (try split) <;> omega
def hN (wd : Int) : Nat := (hI wd).toNat
theorem hN_bd (wd : Int) : 1 ≤ hN wd ∧ hN wd ≤ 8 := by have := hI_bd wd; unfold hN; omega
theorem hI_N (wd : Int) : hI wd = (hN wd : Int) := by have := hI_bd wd; unfold hN; omega
/-- The mask of a width. -/
def mI (wd : Int) : Int := 2 ^ (8 * hN wd) - 1

/-- A word of 64 bits. -/
def U (a : Nat) : Prop := a < 18446744073709551616

def Mk (w : World) : Prop := ∀ i : Nat, i < 8 → w.cell? ⟨0, i, none⟩ = some (.int .u64 ((2 : Int) ^ (8 * (i + 1)) - 1))
theorem Mk.at {w : World} (h : Mk w) (wd : Int) : w.cell? ⟨0, (hI wd).toNat - 1, none⟩ = some (.int .u64 (mI wd)) := by
  have hb := hI_bd wd
  have := h ((hI wd).toNat - 1) (by omega)
  rw [this]
  have e : (hI wd).toNat - 1 + 1 = hN wd := by unfold hN; omega
  rw [e]; rfl

set_option maxHeartbeats 400000 in
theorem held_any (wd : Int) (w : World) :
    Calls Tryd.prog 36 #[.int .i64 wd] w fun e w' => e = .returned (.int .i64 (hI wd)) ∧ w = w' := by
  go_enter Tryd.func36, Tryd.ntmps36
  go_wp2
  all_goals
    go_ret
    refine ⟨?_, rfl⟩
    show Ending.returned (.int .i64 _) = _
    congr 2
    unfold hI
    repeat' split
    all_goals omega

set_option maxHeartbeats 400000 in
theorem mask_any (wd : Int) (w : World) (hm : Mk w) :
    Calls Tryd.prog 13 #[.int .i64 wd] w fun e w' => e = .returned (.int .u64 (mI wd)) ∧ w = w' := by
  have hb := hI_bd wd
  have hc := hm.at wd
  clear hm
  go_enter Tryd.func13, Tryd.ntmps13
  go_wp2_with (go_at_call 36; refine (held_any _ _).mono ?_; rintro e w' ⟨rfl, rfl⟩)
  go_ret
  exact ⟨rfl, rfl⟩

theorem and_mask (a : Nat) (ha : a < 18446744073709551616) (k : Nat) (hk : k ≤ 64) : bits .and .u64 (a : Int) (2 ^ k - 1) = ((a % 2 ^ k : Nat) : Int) := by
  have e : ((2 : Int) ^ k - 1) = ((2 ^ k - 1 : Nat) : Int) := by
    have : 0 < 2 ^ k := Nat.two_pow_pos k
    rw [Int.natCast_sub this]; simp
  have hlt : 2 ^ k - 1 < 18446744073709551616 := by
    have : 2 ^ k ≤ 2 ^ 64 := Nat.pow_le_pow_right (by decide) hk
    have h0 : 0 < 2 ^ k := Nat.two_pow_pos k
    have e64 : (2 : Nat) ^ 64 = 18446744073709551616 := by decide
    omega
  rw [e, u64_and_nat a _ ha hlt, Nat.and_two_pow_sub_one_eq_mod]

/-- A word cut to a width. -/
def cN (a : Nat) (wd : Int) : Nat := a % 2 ^ (8 * hN wd)
theorem cN_U (a : Nat) (ha : U a) (wd : Int) : U (cN a wd) := Nat.lt_of_le_of_lt (Nat.mod_le _ _) ha

set_option maxHeartbeats 400000 in
theorem cut_any (a : Nat) (ha : U a) (wd : Int) (w : World) (hm : Mk w) :
    Calls Tryd.prog 15 #[.int .u64 a, .int .i64 wd] w fun e w' => e = .returned (.int .u64 (cN a wd : Nat)) ∧ w = w' := by
  have hb := hN_bd wd
  have H : Hid (bits .and .u64 (a : Int) (mI wd) = ((cN a wd : Nat) : Int)) := and_mask a ha (8 * hN wd) (by omega)
  clear hb
  go_enter Tryd.func15, Tryd.ntmps15
  go_wp2_with (go_at_call 13; refine (mask_any _ _ hm).mono ?_; rintro e w' ⟨rfl, rfl⟩)
  go_ret
  exact ⟨by rw [← H.out]; rfl, rfl⟩


theorem sign_val (a : Nat) (ha : a < 18446744073709551616) (wd : Int) :
    (bits .and .u64 ((a : Int) / 2 ^ ((8 * hI wd).toNat - 1)) 1 == 1) = decide (a / 2 ^ (8 * hN wd - 1) % 2 = 1) := by
  have e : (8 * hI wd).toNat - 1 = 8 * hN wd - 1 := by have := hI_bd wd; unfold hN; omega
  have hlt : a / 2 ^ (8 * hN wd - 1) < 18446744073709551616 := Nat.lt_of_le_of_lt (Nat.div_le_self _ _) ha
  have e2 : ((a : Int) / 2 ^ (8 * hN wd - 1)) = ((a / 2 ^ (8 * hN wd - 1) : Nat) : Int) := by rw [Int.natCast_ediv]; simp
  rw [e, e2]
  have := u64_and_nat (a / 2 ^ (8 * hN wd - 1)) 1 hlt (by decide)
  rw [show ((1 : Int)) = ((1 : Nat) : Int) from rfl, this, Nat.and_one_is_mod]
  generalize a / 2 ^ (8 * hN wd - 1) % 2 = y
  rw [Bool.eq_iff_iff]; simp; omega

/-- Is the highest bit of the width 1? -/
def sB (a : Nat) (wd : Int) : Bool := decide (a / 2 ^ (8 * hN wd - 1) % 2 = 1)
set_option maxHeartbeats 400000 in
theorem sign_any (a : Nat) (ha : U a) (wd : Int) (w : World) :
    Calls Tryd.prog 17 #[.int .u64 a, .int .i64 wd] w fun e w' => e = .returned (.bool (sB a wd)) ∧ w = w' := by
  have hb := hI_bd wd
  have H := Lib.hid (sign_val a ha wd)
  clear ha
  go_enter Tryd.func17, Tryd.ntmps17
  go_wp2_with (go_at_call 36; refine (held_any _ _).mono ?_; rintro e w' ⟨rfl, rfl⟩)
  go_ret
  exact ⟨congrArg Ending.returned (congrArg Value.bool H.out), rfl⟩

/-- How many bits of a byte are ones. -/
def popN (x : Nat) : Nat := x % 2 + x / 2 % 2 + x / 4 % 2 + x / 8 % 2 + x / 16 % 2 + x / 32 % 2 + x / 64 % 2 + x / 128 % 2
theorem popN_le (x : Nat) : popN x ≤ 8 := by unfold popN; omega
/-- Is that number even? -/
def pB (a : Nat) : Bool := popN (a % 256) % 2 == 0

set_option maxRecDepth 100000 in
set_option maxHeartbeats 800000 in
theorem ones_fin (x : Fin 256)  (w : World) :
    Calls Tryd.prog 37 #[.int .u8 (x.val : Int)] w fun e w' => e = .returned (.int .i64 (popN x.val : Nat)) ∧ w = w' := by
  have hx := x.isLt
  go_enter Tryd.func37, Tryd.ntmps37
  go_wp2
  go_ret
  refine ⟨congrArg Ending.returned (congrArg (Value.int IntKind.i64) ?_), rfl⟩
  clear hx w
  revert x
  decide +kernel

theorem ones_any (a : Nat) (w : World) :
    Calls Tryd.prog 37 #[.int .u8 ((a : Int) % 256)] w fun e w' => e = .returned (.int .i64 (popN (a % 256) : Nat)) ∧ w = w' := by
  have := ones_fin ⟨a % 256, Nat.mod_lt _ (by decide)⟩ w
  simpa using this

theorem par_fin : ∀ n : Fin 9, (bits .and .i64 (n.val : Int) 1 == 0) = (n.val % 2 == 0) := by decide +kernel

set_option maxHeartbeats 400000 in
theorem parity_any (a : Nat) (w : World) :
    Calls Tryd.prog 21 #[.int .u64 a] w fun e w' => e = .returned (.bool (pB a)) ∧ w = w' := by
  have H := Lib.hid (par_fin ⟨popN (a % 256), Nat.lt_succ_of_le (popN_le _)⟩)
  go_enter Tryd.func21, Tryd.ntmps21
  go_wp2_with (go_at_call 37; refine (ones_any _ _).mono ?_; rintro e w' ⟨rfl, rfl⟩)
  go_ret
  exact ⟨congrArg Ending.returned (congrArg Value.bool H.out), rfl⟩

theorem add64_call (x y c : Nat) (hc : c ≤ 1) (w : World) :
    (callFunc 31 #[.int .u64 x, .int .u64 y, .int .u64 c]).run Tryd.prog w =
      .ok (.value (.tuple #[.int .u64 (((x + y + c) % 18446744073709551616 : Nat) : Int), .int .u64 (((x + y + c) / 18446744073709551616 : Nat) : Int)])) w := by
  rw [run_callFunc_extern Tryd.func31 (by kernel_rfl) (by kernel_rfl) (by kernel_rfl) (e := add64Entry) (by kernel_rfl), run_add64 x y c (by omega) (by omega) (by omega) (by omega)]
  simp only [Result.andThen]
  congr 5 <;> omega

def sub64Entry : Array Value → Sem Value := fun args => do
  let (x, y, b) ← Extern.MathBitsCarry.three "Sub64" args
  pure (Extern.MathBitsCarry.pair ((x + Extern.MathBitsCarry.m64 - y - b) % Extern.MathBitsCarry.m64) (if x < y + b then 1 else 0))

theorem run_sub64 (x y b : Nat) (hb : b ≤ 1) (w : World) :
    (sub64Entry #[.int .u64 x, .int .u64 y, .int .u64 b]).run Tryd.prog w =
      .ok (.tuple #[.int .u64 (((x + 18446744073709551616 - y - b) % 18446744073709551616 : Nat) : Int), .int .u64 ((if x < y + b then 1 else 0 : Nat) : Int)]) w := by
  have : b = 0 ∨ b = 1 := by omega
  rcases this with rfl | rfl <;> rfl

theorem sub64_call (x y b : Nat) (hb : b ≤ 1) (w : World) :
    (callFunc 35 #[.int .u64 x, .int .u64 y, .int .u64 b]).run Tryd.prog w =
      .ok (.value (.tuple #[.int .u64 (((x + 18446744073709551616 - y - b) % 18446744073709551616 : Nat) : Int), .int .u64 ((if x < y + b then 1 else 0 : Nat) : Int)])) w := by
  rw [run_callFunc_extern Tryd.func35 (by kernel_rfl) (by kernel_rfl) (by kernel_rfl) (e := sub64Entry) (by kernel_rfl), run_sub64 x y b hb]
  rfl

def addS (a b c : Nat) : Nat := (a + b + c) % 18446744073709551616
def addC (a b c : Nat) : Nat := (a + b + c) / 18446744073709551616
def subS (a b c : Nat) : Nat := (a + 18446744073709551616 - b - c) % 18446744073709551616
def subC (a b c : Nat) : Nat := if a < b + c then 1 else 0
def b1 (c : Bool) : Nat := if c then 1 else 0

set_option maxHeartbeats 400000 in
theorem addw_any (a b : Nat) (c : Int) (hc : c = 0 ∨ c = 1) (w : World) :
    Calls Tryd.prog 30 #[.int .u64 a, .int .u64 b, .int .u64 c] w fun e w' => e = .returned (.tuple #[.int .u64 (addS a b c.toNat : Nat), .int .u64 (addC a b c.toNat : Nat)]) ∧ w = w' := by
  obtain ⟨k, rfl⟩ : ∃ k : Nat, c = k := ⟨c.toNat, by omega⟩
  have H := fun w => add64_call a b k (by omega) w
  rw [Int.toNat_natCast]
  change ∀ w, (callFunc 31 #[.int .u64 a, .int .u64 b, .int .u64 k]).run Tryd.prog w = .ok (.value (.tuple #[.int .u64 (addS a b k : Nat), .int .u64 (addC a b k : Nat)])) w at H
  clear hc
  go_enter Tryd.func30, Tryd.ntmps30
  go_wp2
  go_ret2
  exact ⟨rfl, rfl⟩
set_option maxHeartbeats 400000 in
theorem subw_any (a b : Nat) (c : Int) (hc : c = 0 ∨ c = 1) (w : World) :
    Calls Tryd.prog 34 #[.int .u64 a, .int .u64 b, .int .u64 c] w fun e w' => e = .returned (.tuple #[.int .u64 (subS a b c.toNat : Nat), .int .u64 (subC a b c.toNat : Nat)]) ∧ w = w' := by
  obtain ⟨k, rfl⟩ : ∃ k : Nat, c = k := ⟨c.toNat, by omega⟩
  have H := fun w => sub64_call a b k (by omega) w
  rw [Int.toNat_natCast]
  change ∀ w, (callFunc 35 #[.int .u64 a, .int .u64 b, .int .u64 k]).run Tryd.prog w = .ok (.value (.tuple #[.int .u64 (subS a b k : Nat), .int .u64 (subC a b k : Nat)])) w at H
  clear hc
  go_enter Tryd.func34, Tryd.ntmps34
  go_wp2
  go_ret2
  exact ⟨rfl, rfl⟩
end Go.Proofs.YtjnojonbaoecmaaDoor
