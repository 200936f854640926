/- The walk of BitsParity. -/
import Derived.Test.YtjnojonbaoecmaaDoorWakes
import Derived.Test.YtjnojonbaoecmaaDoorLaid
namespace Go.Proofs.YtjnojonbaoecmaaDoor
open Go.RowKit
theorem parityI_any (x : Int) (hx : UI x) (w : World) :
    Calls Tryd.prog 21 #[.int .u64 x] w fun e w' => e = .returned (.bool (pB x.toNat)) ∧ w = w' := by
  obtain ⟨h0, h1⟩ := hx
  obtain ⟨k, rfl⟩ := Int.eq_ofNat_of_zero_le h0
  simpa using parity_any k w
theorem UI_of {a : Nat} (h : U a) : UI (a : Int) := by unfold U at h; unfold UI; omega
theorem cut1_par (a : Nat) : pB (cN a 1) = pB a := by
  unfold pB cN
  have : hN 1 = 1 := by decide
  rw [this]
  simp
theorem par_turn : ∀ x : Fin 256, ∀ m : Fin 8, (popN (x.val ^^^ 2 ^ m.val) % 2 == 0) = !(popN x.val % 2 == 0) := by decide +kernel
theorem par_bit (a m : Nat) : (pB (a ^^^ 2 ^ m) == pB a) = !decide (m < 8) := by
  unfold pB
  have e : (a ^^^ 2 ^ m) % 256 = (a % 256) ^^^ (2 ^ m % 256) := Nat.xor_mod_two_pow (n := 8)
  rw [e]
  by_cases h : m < 8
  · have e2 : 2 ^ m % 256 = 2 ^ m := Nat.mod_eq_of_lt (by
      have : 2 ^ m ≤ 2 ^ 7 := Nat.pow_le_pow_right (by decide) (by omega)
      omega)
    rw [e2, par_turn ⟨a % 256, Nat.mod_lt _ (by decide)⟩ ⟨m, h⟩]
    simp [h]
  · have e2 : 2 ^ m % 256 = 0 := by
      have : m = (m - 8) + 8 := by omega
      rw [this, Nat.pow_add]; omega
    rw [e2, Nat.xor_zero]
    simp [h]
theorem par_val (a : Nat) (ha : U a) (n : Int) (h0 : 0 ≤ n) (h1 : n ≤ 63) :
    (pB (bits BinOp.xor IntKind.u64 (↑a) (IntKind.u64.wrap (2 ^ n.toNat))).toNat == pB a) = !decide (n < 8) := by
  obtain ⟨m, rfl⟩ := Int.eq_ofNat_of_zero_le h0
  have e64 : (2 : Nat) ^ 64 = 18446744073709551616 := by decide
  have hl : 2 ^ m < 18446744073709551616 := by rw [← e64]; exact Nat.pow_lt_pow_right (by decide) (by omega)
  have e : IntKind.u64.wrap (2 ^ (m : Int).toNat) = ((2 ^ m : Nat) : Int) := by
    rw [IntKind.wrap_u64, Int.toNat_natCast, show ((2 : Int) ^ m) = ((2 ^ m : Nat) : Int) by simp]
    generalize 2 ^ m = y at hl ⊢
    exact Int.emod_eq_of_lt (by omega) (by omega)
  rw [e, u64_xor_nat _ _ ha hl, Int.toNat_natCast, par_bit]
  congr 2
  simp
  omega
set_option maxHeartbeats 400000 in
theorem law_parity (a : Nat) (ha : U a) (n : Int) (w : World) (hm : Mk w) : Calls Tryd.prog 7 #[.int .u64 a, .int .i64 n] w fun e w' => e = .returned (.bool true) ∧ Below w.heap.size w w' := by
  have h1 : -63 ≤ n.tmod 64 := by have := Int.tmod_eq_emod (a := n) (b := 64); split at this <;> omega
  have h2 : n.tmod 64 ≤ 63 := by have := Int.tmod_lt_of_pos n (b := 64) (by decide); omega
  have h3 := cut1_par a
  have hc := cN_U a ha 1
  have h4 := par_val a ha (n.tmod 64 % 64) (by omega) (by omega)
  go_enter Tryd.func7, Tryd.ntmps7
  go_wp2_with (first | (go_at_call 21; refine (parityI_any _ (by first | exact UI_of (by assumption) | exact bits_UI _ _ _) _).mono ?_; rintro e w' ⟨rfl, rfl⟩) | (go_at_call 15; refine (cut_any _ (by assumption) _ _ hm).mono ?_; rintro e w' ⟨rfl, rfl⟩) | (go_at_call 8; refine (wakes_any _ hm).mono ?_; rintro e w' ⟨rfl, hb⟩))
  go_ret
  exact ⟨rfl, by assumption⟩
theorem walkIn_parity (a0 a1 : Int) (w0 : (Lit.int .u64 a0).wf = true) (_ : (Lit.int .i64 a1).wf = true) (w : World) (hm : Mk w) : Calls Tryd.prog 7 #[.int .u64 a0, .int .i64 a1] w fun e w' => e = .returned (.bool true) ∧ Below w.heap.size w w' := by
  obtain ⟨k, rfl, hk⟩ := nat_of_wf w0
  exact law_parity k hk a1 w hm
end Go.Proofs.YtjnojonbaoecmaaDoor
