/- The contracts of bits.Ext and Turn. -/
import Derived.Test.YtjnojonbaoecmaaDoorSums
import Derived.Deep.QuietTactic
import Derived.BigQuiet
namespace Go.Proofs.YtjnojonbaoecmaaDoor
open Go.RowKit
theorem mI_nat (wd : Int) : mI wd = ((2 ^ (8 * hN wd) - 1 : Nat) : Int) := by
  unfold mI
  have : 0 < 2 ^ (8 * hN wd) := Nat.two_pow_pos _
  rw [Int.natCast_sub this]; simp
theorem mN_lt (wd : Int) : 2 ^ (8 * hN wd) ≤ 18446744073709551616 := by
  have hb := hN_bd wd
  have : 2 ^ (8 * hN wd) ≤ 2 ^ 64 := Nat.pow_le_pow_right (by decide) (by omega)
  have e64 : (2 : Nat) ^ 64 = 18446744073709551616 := by decide
  omega
/-- A word cut, with its sign through all 64 bits. -/
def eN (a : Nat) (wd : Int) : Nat := if sB a wd then a ||| (18446744073709551615 ^^^ (2 ^ (8 * hN wd) - 1)) else cN a wd
theorem ext_val (a : Nat) (ha : U a) (wd : Int) : bits BinOp.or IntKind.u64 (↑a) (bits BinOp.xor IntKind.u64 IntKind.u64.max (mI wd)) = ((a ||| (18446744073709551615 ^^^ (2 ^ (8 * hN wd) - 1)) : Nat) : Int) := by
  have hm := mN_lt wd
  have h0 : 0 < 2 ^ (8 * hN wd) := Nat.two_pow_pos _
  have e : IntKind.u64.max = ((18446744073709551615 : Nat) : Int) := by decide
  rw [e, mI_nat, u64_xor_nat _ _ (by decide) (by omega), u64_or_nat _ _ ha]
  exact Nat.xor_lt_two_pow (n := 64) (by decide) (by have e64 : (2 : Nat) ^ 64 = 18446744073709551616 := by decide
                                                     omega)

set_option maxHeartbeats 400000 in
theorem ext_any (a : Nat) (ha : U a) (wd : Int) (w : World) (hm : Mk w) :
    Calls Tryd.prog 19 #[.int .u64 a, .int .i64 wd] w fun e w' => e = .returned (.int .u64 (eN a wd : Nat)) ∧ w = w' := by
  have H := Lib.hid (ext_val a ha wd)
  by_cases hs : sB a wd = true
  · go_enter Tryd.func19, Tryd.ntmps19
    go_wp2_with (first | (go_at_call 17; refine (sign_any _ (by assumption) _ _).mono ?_; rintro e w' ⟨rfl, rfl⟩) | (go_at_call 13; refine (mask_any _ _ hm).mono ?_; rintro e w' ⟨rfl, rfl⟩))
    go_ret
    refine ⟨congrArg Ending.returned (congrArg (Value.int IntKind.u64) ?_), rfl⟩
    rw [H.out]; unfold eN; rw [if_pos hs]
  · have hs' : sB a wd = false := by simpa using hs
    clear hs
    go_enter Tryd.func19, Tryd.ntmps19
    go_wp2_with (first | (go_at_call 17; refine (sign_any _ (by assumption) _ _).mono ?_; rintro e w' ⟨rfl, rfl⟩) | (go_at_call 15; refine (cut_any _ (by assumption) _ _ hm).mono ?_; rintro e w' ⟨rfl, rfl⟩))
    go_ret
    refine ⟨congrArg Ending.returned (congrArg (Value.int IntKind.u64) ?_), rfl⟩
    unfold eN; rw [hs']; rfl


def UI (x : Int) : Prop := 0 ≤ x ∧ x < 18446744073709551616
theorem Mk.drewN {w : World} (h : Mk w) (n : Nat) : Mk (w.drewN n) := h
theorem cutI_any (x : Int) (hx : UI x) (wd : Int) (w : World) (hm : Mk w) :
    Calls Tryd.prog 15 #[.int .u64 x, .int .i64 wd] w fun e w' => e = .returned (.int .u64 (cN x.toNat wd : Nat)) ∧ w' = w := by
  obtain ⟨h0, h1⟩ := hx
  obtain ⟨k, rfl⟩ := Int.eq_ofNat_of_zero_le h0
  refine (cut_any k (by unfold U; omega) wd w hm).mono fun e w' ⟨a, b⟩ => ⟨?_, b.symm⟩
  rw [a]; simp
theorem bits_UI (op : BinOp) (a b : Int) : UI (bits op .u64 a b) := by
  have h := bits_within op .u64 a b
  have e1 : IntKind.u64.min = 0 := by decide
  have e2 : IntKind.u64.max = 18446744073709551615 := by decide
  rw [e1, e2] at h
  exact ⟨h.1, by omega⟩


/-- A word, cut, turned left by k bits. -/
def turnN (a k : Nat) (wd : Int) : Nat := (cN a wd * 2 ^ k % 2 ^ (8 * hN wd)) ||| (cN a wd / 2 ^ (8 * hN wd - k))
def turnI (a : Nat) (t : Int) (wd : Int) : Nat := cN (bits BinOp.or IntKind.u64 (IntKind.u64.wrap (↑(cN a wd) * 2 ^ t.toNat)) (↑(cN a wd) / 2 ^ (8 * hI wd - t).toNat)).toNat wd

theorem turn_eq (a : Nat) (ha : U a) (k : Nat) (wd : Int) (hk : k < 8 * hN wd) : turnI a (k : Int) wd = turnN a k wd := by
  have hc := cN_U a ha wd
  have hh := hN_bd wd
  have e64 : (2 : Nat) ^ 64 = 18446744073709551616 := by decide
  have e1 : (8 * hI wd - (k : Int)).toNat = 8 * hN wd - k := by rw [hI_N]; omega
  have e2 : ((cN a wd : Nat) : Int) / 2 ^ (8 * hN wd - k) = ((cN a wd / 2 ^ (8 * hN wd - k) : Nat) : Int) := by rw [Int.natCast_ediv]; simp
  have e3 : IntKind.u64.wrap (((cN a wd : Nat) : Int) * 2 ^ (k : Int).toNat) = ((cN a wd * 2 ^ k % 18446744073709551616 : Nat) : Int) := by
    rw [IntKind.wrap_u64, Int.toNat_natCast, Int.natCast_emod, Int.natCast_mul]; simp
  have hd : cN a wd / 2 ^ (8 * hN wd - k) < 18446744073709551616 := Nat.lt_of_le_of_lt (Nat.div_le_self _ _) hc
  have hM : cN a wd < 2 ^ (8 * hN wd) := Nat.mod_lt _ (Nat.two_pow_pos _)
  unfold turnI
  rw [e1, e2, e3, u64_or_nat _ _ (Nat.mod_lt _ (by decide)) hd, Int.toNat_natCast]
  unfold turnN
  generalize cN a wd = c at *
  unfold cN
  rw [← e64]
  apply Nat.eq_of_testBit_eq
  intro i
  simp only [Nat.testBit_mod_two_pow, Nat.testBit_or, Nat.testBit_div_two_pow, Nat.testBit_mul_two_pow]
  by_cases hi : i < 8 * hN wd
  · have : i < 64 := by omega
    simp [hi, this]
  · have hz : c.testBit (i + (8 * hN wd - k)) = false := Nat.testBit_lt_two_pow (Nat.lt_of_lt_of_le hM (Nat.pow_le_pow_right (by decide) (by omega)))
    simp [hi, hz]

/-- By how many bits a word of a width is turned left. -/
def tN (n : Int) (wd : Int) : Nat := (n % (8 * hI wd)).toNat
theorem tN_lt (n : Int) (wd : Int) : tN n wd < 8 * hN wd := by
  have hb := hI_bd wd
  have h0 := Int.emod_nonneg n (b := 8 * hI wd) (by omega)
  have h1 := Int.emod_lt_of_pos n (b := 8 * hI wd) (by omega)
  unfold tN; rw [← Int.ofNat_lt, Int.toNat_of_nonneg h0]; rw [hI_N] at h1 ⊢; omega
theorem tmod_pos (n : Int) (wd : Int) (hp : ¬ n.tmod (8 * hI wd) < 0) : n.tmod (8 * hI wd) = (tN n wd : Int) := by
  have hb := hI_bd wd
  have h0 := Int.emod_nonneg n (b := 8 * hI wd) (by omega)
  have h1 := Int.emod_lt_of_pos n (b := 8 * hI wd) (by omega)
  have := Int.tmod_eq_emod (a := n) (b := 8 * hI wd)
  unfold tN
  rw [Int.toNat_of_nonneg h0]
  split at this <;> omega
theorem tmod_neg (n : Int) (wd : Int) (hp : n.tmod (8 * hI wd) < 0) : n.tmod (8 * hI wd) + 8 * hI wd = (tN n wd : Int) := by
  have hb := hI_bd wd
  have h0 := Int.emod_nonneg n (b := 8 * hI wd) (by omega)
  have h1 := Int.emod_lt_of_pos n (b := 8 * hI wd) (by omega)
  have := Int.tmod_eq_emod (a := n) (b := 8 * hI wd)
  unfold tN
  rw [Int.toNat_of_nonneg h0]
  split at this <;> omega

set_option maxHeartbeats 400000 in
theorem turn_pos (a : Nat) (ha : U a) (n : Int) (wd : Int) (w : World) (hm : Mk w) (hp : ¬ n.tmod (8 * hI wd) < 0) :
    Calls Tryd.prog 23 #[.int .u64 a, .int .i64 n, .int .i64 wd] w fun e w' => e = .returned (.int .u64 (turnN a (tN n wd) wd : Nat)) ∧ ∃ k, w' = w.drewN k := by
  have hb := hI_bd wd
  have ha' := cN_U a ha wd
  have h1 : n.tmod (8 * hI wd) < 8 * hI wd := Int.tmod_lt_of_pos _ (by omega)
  have H := Lib.hid (turn_eq a ha (tN n wd) wd (tN_lt n wd))
  have HT := Lib.hid (tmod_pos n wd hp)
  go_enter Tryd.func23, Tryd.ntmps23
  go_wp2_with (first | (go_at_call 36; refine (held_any _ _).mono ?_; rintro e w' ⟨rfl, rfl⟩) | (go_at_call 15; refine (cut_any _ (by assumption) _ _ hm).mono ?_; rintro e w' ⟨rfl, rfl⟩))
  go_quiet ((go_at_call 15; exact Calls.quiet_of_same (cutI_any _ (bits_UI _ _ _) _ _ (hm.drewN _))))
  go_wp2
  go_ret
  refine ⟨congrArg Ending.returned (congrArg (Value.int IntKind.u64) ?_), _, rfl⟩
  rw [← H.out, ← HT.out]; rfl

set_option maxHeartbeats 400000 in
theorem turn_neg (a : Nat) (ha : U a) (n : Int) (wd : Int) (w : World) (hm : Mk w) (hp : n.tmod (8 * hI wd) < 0) :
    Calls Tryd.prog 23 #[.int .u64 a, .int .i64 n, .int .i64 wd] w fun e w' => e = .returned (.int .u64 (turnN a (tN n wd) wd : Nat)) ∧ ∃ k, w' = w.drewN k := by
  have hb := hI_bd wd
  have ha' := cN_U a ha wd
  have h1 : n.tmod (8 * hI wd) < 8 * hI wd := Int.tmod_lt_of_pos _ (by omega)
  have H := Lib.hid (turn_eq a ha (tN n wd) wd (tN_lt n wd))
  have HT := Lib.hid (tmod_neg n wd hp)
  have h2 : 0 ≤ n.tmod (8 * hI wd) + 8 * hI wd := by rw [HT.out]; omega
  go_enter Tryd.func23, Tryd.ntmps23
  go_wp2_with (first | (go_at_call 36; refine (held_any _ _).mono ?_; rintro e w' ⟨rfl, rfl⟩) | (go_at_call 15; refine (cut_any _ (by assumption) _ _ hm).mono ?_; rintro e w' ⟨rfl, rfl⟩))
  go_quiet ((go_at_call 15; exact Calls.quiet_of_same (cutI_any _ (bits_UI _ _ _) _ _ (hm.drewN _))))
  go_wp2
  go_ret
  refine ⟨congrArg Ending.returned (congrArg (Value.int IntKind.u64) ?_), _, rfl⟩
  rw [← H.out, ← HT.out]; rfl

theorem turn_any (a : Nat) (ha : U a) (n : Int) (wd : Int) (w : World) (hm : Mk w) :
    Calls Tryd.prog 23 #[.int .u64 a, .int .i64 n, .int .i64 wd] w fun e w' => e = .returned (.int .u64 (turnN a (tN n wd) wd : Nat)) ∧ ∃ k, w' = w.drewN k := by
  by_cases hp : n.tmod (8 * hI wd) < 0
  · exact turn_neg a ha n wd w hm hp
  · exact turn_pos a ha n wd w hm hp
end Go.Proofs.YtjnojonbaoecmaaDoor
