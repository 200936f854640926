/- The contract of bits.Number. -/
import Derived.Test.YtjnojonbaoecmaaDoorTurns
namespace Go.Proofs.YtjnojonbaoecmaaDoor
open Go.RowKit
/-- The word of the first k of these bytes, the lowest one first. -/
def numN (z : Nat → Nat) : Nat → Nat
  | 0 => 0
  | k + 1 => numN z k + z k * 2 ^ (8 * k)
theorem numN_lt (z : Nat → Nat) (hz : ∀ j, z j < 256) (k : Nat) : numN z k < 2 ^ (8 * k) := by
  induction k with
  | zero => simp [numN]
  | succ k ih =>
    unfold numN
    have e : 2 ^ (8 * (k + 1)) = 256 * 2 ^ (8 * k) := by rw [Nat.mul_add, Nat.pow_add]; omega
    have h1 := hz k
    have : z k * 2 ^ (8 * k) ≤ 255 * 2 ^ (8 * k) := Nat.mul_le_mul_right _ (by omega)
    omega
theorem num_step (z : Nat → Nat) (hz : ∀ j, z j < 256) (k : Nat) (hk : k < 8) : bits BinOp.or IntKind.u64 (↑(numN z k)) (IntKind.u64.wrap (IntKind.u64.wrap ↑(z k) * 2 ^ (8 * k))) = ((numN z (k + 1) : Nat) : Int) := by
  have h0 := numN_lt z hz k
  have h1 := hz k
  have hp : 2 ^ (8 * (k + 1)) ≤ 2 ^ 64 := Nat.pow_le_pow_right (by decide) (by omega)
  have e64 : (2 : Nat) ^ 64 = 18446744073709551616 := by decide
  have e1 : 2 ^ (8 * (k + 1)) = 256 * 2 ^ (8 * k) := by rw [Nat.mul_add, Nat.pow_add]; omega
  have h2 : z k * 2 ^ (8 * k) ≤ 255 * 2 ^ (8 * k) := Nat.mul_le_mul_right _ (by omega)
  have hw : IntKind.u64.wrap (IntKind.u64.wrap ↑(z k) * 2 ^ (8 * k)) = ((z k * 2 ^ (8 * k) : Nat) : Int) := by
    rw [IntKind.wrap_u64, IntKind.wrap_u64, Int.emod_eq_of_lt (a := (z k : Int)) (by omega) (by omega), show ((z k : Int) * 2 ^ (8 * k)) = ((z k * 2 ^ (8 * k) : Nat) : Int) by simp]
    exact Int.emod_eq_of_lt (by omega) (by omega)
  rw [hw, u64_or_nat _ _ (by omega) (by omega)]
  congr 1
  rw [Nat.or_comm, nat_join (8 * k) _ _ (Nat.mul_mod_left _ _) h0, Nat.add_comm]
  rfl

set_option maxHeartbeats 400000 in
theorem number_lt (b off len cap : Nat) (z : Nat → Nat) (hz : ∀ j, z j < 256) (w : World) (hc : ∀ j, j < len → w.cell? ⟨b, off + j, none⟩ = some (.int .u8 (z j : Nat))) (hcap : len ≤ cap) (h8 : len ≤ 8) :
    Calls Tryd.prog 27 #[.slice (some ⟨b, off, none⟩) len cap] w fun e w' => e = .returned (.int .u64 (numN z len : Nat)) ∧ w' = w := by
  go_enter Tryd.func27, Tryd.ntmps27
  go_wp2_with (fail)
  go_loop [3, 12] (fun x i => ∃ k : Nat, k ≤ len ∧ i = .int .i64 k ∧ x = .int .u64 (numN z k : Nat)) (fun _ i => len - (intOf i).toNat)
  case atStart => exact ⟨0, Nat.zero_le _, rfl, rfl⟩
  case round =>
    obtain ⟨k, hk, rfl, rfl⟩ := hrel
    by_cases hlt : k < len
    · have hck := hc k (by omega)
      have HS := Lib.hid (num_step z hz k (by omega))
      go_wp2
      go_round
      case rel => exact ⟨k + 1, by omega, by go_num, congrArg (Value.int IntKind.u64) HS.out⟩
      case measure => simp [intOf]; omega
    · obtain rfl : k = len := by omega
      go_wp2
      go_ret
      exact ⟨rfl, rfl⟩

set_option maxHeartbeats 400000 in
theorem number_ge (b off len cap : Nat) (z : Nat → Nat) (hz : ∀ j, z j < 256) (w : World) (hc : ∀ j, j < len → w.cell? ⟨b, off + j, none⟩ = some (.int .u8 (z j : Nat))) (hcap : len ≤ cap) (h8 : 8 < len) :
    Calls Tryd.prog 27 #[.slice (some ⟨b, off, none⟩) len cap] w fun e w' => e = .returned (.int .u64 (numN z 8 : Nat)) ∧ w' = w := by
  go_enter Tryd.func27, Tryd.ntmps27
  go_wp2_with (fail)
  go_loop [3, 12] (fun x i => ∃ k : Nat, k ≤ 8 ∧ i = .int .i64 k ∧ x = .int .u64 (numN z k : Nat)) (fun _ i => 8 - (intOf i).toNat)
  case atStart => exact ⟨0, Nat.zero_le _, rfl, rfl⟩
  case round =>
    obtain ⟨k, hk, rfl, rfl⟩ := hrel
    by_cases hlt : k < 8
    · have hck := hc k (by omega)
      have HS := Lib.hid (num_step z hz k (by omega))
      go_wp2
      go_round
      case rel => exact ⟨k + 1, by omega, by go_num, congrArg (Value.int IntKind.u64) HS.out⟩
      case measure => simp [intOf]; omega
    · obtain rfl : k = 8 := by omega
      go_wp2
      go_ret
      exact ⟨rfl, rfl⟩

theorem number_any (b off len cap : Nat) (z : Nat → Nat) (hz : ∀ j, z j < 256) (w : World) (hc : ∀ j, j < len → w.cell? ⟨b, off + j, none⟩ = some (.int .u8 (z j : Nat))) (hcap : len ≤ cap) :
    Calls Tryd.prog 27 #[.slice (some ⟨b, off, none⟩) len cap] w fun e w' => e = .returned (.int .u64 (numN z (min len 8) : Nat)) ∧ w' = w := by
  by_cases h8 : len ≤ 8
  · rw [Nat.min_eq_left (by omega)]; exact number_lt b off len cap z hz w hc hcap h8
  · rw [Nat.min_eq_right (by omega)]; exact number_ge b off len cap z hz w hc hcap (by omega)
set_option maxHeartbeats 400000 in
theorem number_nil (w : World) :
    Calls Tryd.prog 27 #[.slice none 0 0] w fun e w' => e = .returned (.int .u64 0) ∧ w' = w := by
  go_enter Tryd.func27, Tryd.ntmps27
  go_wp2_with (fail)
  go_loop [3, 12] (fun x i => i = .int .i64 0 ∧ x = .int .u64 0) (fun _ i => 0)
  case atStart => exact ⟨rfl, rfl⟩
  case round =>
    obtain ⟨rfl, rfl⟩ := hrel
    go_wp2
    go_ret
    exact ⟨rfl, rfl⟩
end Go.Proofs.YtjnojonbaoecmaaDoor
