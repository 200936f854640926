/- The contracts of the document's own answer for layer 1: loops. -/
import Derived.Test.YtjnojonbaoecmaaDoorRefs
namespace Go.Proofs.YtjnojonbaoecmaaDoor
open Go.RowKit
theorem tmod_tN (n wd : Int) : (wrap64 (n.tmod (8 * hI wd) + 8 * hI wd)).tmod (8 * hI wd) = (tN n wd : Int) := by
  have hb := hI_bd wd
  have h0 := Int.emod_nonneg n (b := 8 * hI wd) (by omega)
  have h1 := Int.emod_lt_of_pos n (b := 8 * hI wd) (by omega)
  have h2 := Int.tmod_eq_emod (a := n) (b := 8 * hI wd)
  have h2' : n.tmod (8 * hI wd) = n % (8 * hI wd) ∨ n.tmod (8 * hI wd) = n % (8 * hI wd) - 8 * hI wd := by split at h2 <;> omega
  clear h2
  have hw : wrap64 (n.tmod (8 * hI wd) + 8 * hI wd) = n.tmod (8 * hI wd) + 8 * hI wd := by
    unfold wrap64; omega
  have hp : 0 ≤ n.tmod (8 * hI wd) + 8 * hI wd := by omega
  rw [hw, Int.tmod_eq_emod_of_nonneg hp, Int.add_emod_right]
  have e : n.tmod (8 * hI wd) % (8 * hI wd) = n % (8 * hI wd) := by
    rcases h2' with h | h <;> rw [h]
    · rw [Int.emod_emod]
    · rw [Int.sub_emod, Int.emod_self, Int.sub_zero, Int.emod_emod, Int.emod_emod]
  rw [e]
  unfold tN
  rw [Int.toNat_of_nonneg h0]
theorem turn_step (a : Nat) (k : Nat) (wd : Int) (hk : k + 1 < 8 * hN wd) :
    cN (bits BinOp.or IntKind.u64 (IntKind.u64.wrap (↑(turnN a k wd) * 2)) (bits BinOp.and IntKind.u64 (↑(turnN a k wd) / 2 ^ (8 * hN wd - 1)) 1)).toNat wd = turnN a (k + 1) wd := by
  have hU := turn_U a k wd (by omega)
  have hlt := turn_lt a k wd (by omega)
  have hc : cN (turnN a k wd) wd = turnN a k wd := Nat.mod_eq_of_lt hlt
  have h1 := turn_eq (turnN a k wd) hU 1 wd (by omega)
  rw [turn_turn a k 1 wd (by omega) (by omega), Nat.mod_eq_of_lt (by omega)] at h1
  rw [← h1]
  unfold turnI
  rw [hc]
  have hb := hN_bd wd
  have hIN := hI_N wd
  have e1 : (8 * hI wd - ((1 : Nat) : Int)).toNat = 8 * hN wd - 1 := by omega
  have e3 : bits BinOp.and IntKind.u64 (↑(turnN a k wd) / 2 ^ (8 * hN wd - 1)) 1 = ((turnN a k wd : Nat) : Int) / 2 ^ (8 * hN wd - 1) := by
    have := bit_val (turnN a k wd) (8 * hN wd - 1) hU
    rw [this, Nat.toNat_testBit]
    have hd : turnN a k wd / 2 ^ (8 * hN wd - 1) < 2 := by
      rw [Nat.div_lt_iff_lt_mul (Nat.two_pow_pos _), Nat.mul_comm, ← Nat.pow_succ]
      rwa [show (8 * hN wd - 1).succ = 8 * hN wd by omega]
    rw [Nat.mod_eq_of_lt hd, Int.natCast_ediv]; simp
  rw [e1, e3]
  rfl
theorem rcutI_any (x : Int) (hx : UI x) (wd : Int) (w : World) :
    Calls Tryd.prog 16 #[.int .u64 x, .int .i64 wd] w fun e w' => e = .returned (.int .u64 (cN x.toNat wd : Nat)) ∧ w = w' := by
  obtain ⟨h0, h1⟩ := hx
  obtain ⟨k, rfl⟩ := Int.eq_ofNat_of_zero_le h0
  refine (rcut_any k (by unfold U; omega) wd w).mono fun e w' ⟨a, b⟩ => ⟨?_, b⟩
  rw [a]; simp
set_option maxHeartbeats 1000000 in
theorem rturn_any (a : Nat) (ha : U a) (n wd : Int) (w : World) :
    Calls Tryd.prog 24 #[.int .u64 a, .int .i64 n, .int .i64 wd] w fun e w' => e = .returned (.int .u64 (turnN a (tN n wd) wd : Nat)) ∧ w = w' := by
  have hb := hI_bd wd
  have ht := tN_lt n wd
  have hN' := tmod_tN n wd
  have h0 := turn_zero a wd
  have hst := fun k hk => turn_step a k wd hk
  have hIN := hI_N wd
  rw [hIN] at hN' hb
  generalize tN n wd = t at *
  go_enter Tryd.func24, Tryd.ntmps24
  go_wp2_with (first | (go_at_call 33; refine (wide_any _ _).mono ?_; rintro e w' ⟨rfl, rfl⟩) | (go_at_call 16; refine (rcut_any _ (by assumption) _ _).mono ?_; rintro e w' ⟨rfl, rfl⟩))
  go_loop [0, 8] (fun x i => ∃ k : Nat, k ≤ t ∧ i = .int .i64 k ∧ x = .int .u64 (turnN a k wd : Nat)) (fun _ i => t - (intOf i).toNat)
  case atStart => exact ⟨0, Nat.zero_le _, rfl, by rw [h0]⟩
  case round =>
    obtain ⟨k, hk, rfl, rfl⟩ := hrel
    by_cases hlt : k < t
    · have HS := Lib.hid (hst k (by omega))
      clear hst
      go_wp2_with (go_at_call 16; refine (rcutI_any _ (bits_UI _ _ _) _ _).mono ?_; rintro e w' ⟨rfl, rfl⟩)
      go_round
      case rel => exact ⟨k + 1, by omega, by go_num, congrArg (Value.int IntKind.u64) (congrArg Nat.cast HS.out)⟩
      case measure => simp [intOf]; omega
    · obtain rfl : k = t := by omega
      clear hst
      go_wp2
      go_ret
      exact ⟨rfl, rfl⟩
end Go.Proofs.YtjnojonbaoecmaaDoor
