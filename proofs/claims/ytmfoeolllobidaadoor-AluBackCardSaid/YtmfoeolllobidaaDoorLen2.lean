/- The contract of math/bits.Len64: the other three ways, and the whole. -/
import Derived.Test.YtmfoeolllobidaaDoorLen
namespace Go.Proofs.YtmfoeolllobidaaDoor
open Go.RowKit
set_option maxRecDepth 100000 in
set_option maxHeartbeats 2000000 in
theorem len64_001 (x : Nat) (c : Fin 256) (h0 : decide ((4294967296 : Int) ≤ (x : Int)) = false) (h1 : decide ((65536 : Int) ≤ (x : Int)) = false) (h2 : decide ((256 : Int) ≤ (x : Int)) = true) (e0 : ((x : Int) / 256) = (c.val : Int)) (w : World) :
    Calls Tryd.prog 75 #[.int .u64 (x : Int)] w fun e w' => e = .returned (.int .i64 (8 + bl c.val : Nat)) ∧ w = w' := by
  have hx := c.isLt
  go_enter Tryd.func75, Tryd.ntmps75
  go_wp2
  go_ret
  refine ⟨congrArg Ending.returned (congrArg (Value.int IntKind.i64) ?_), rfl⟩
  clear h0 h1 h2 e0 w
  revert c
  decide +kernel
set_option maxRecDepth 100000 in
set_option maxHeartbeats 2000000 in
theorem len64_011 (x a : Nat) (c : Fin 256) (h0 : decide ((4294967296 : Int) ≤ (x : Int)) = false) (h1 : decide ((65536 : Int) ≤ (x : Int)) = true) (e0 : ((x : Int) / 65536) = (a : Int)) (h2 : decide ((256 : Int) ≤ (a : Int)) = true) (e1 : ((a : Int) / 256) = (c.val : Int)) (w : World) :
    Calls Tryd.prog 75 #[.int .u64 (x : Int)] w fun e w' => e = .returned (.int .i64 (24 + bl c.val : Nat)) ∧ w = w' := by
  have hx := c.isLt
  go_enter Tryd.func75, Tryd.ntmps75
  go_wp2
  go_ret
  refine ⟨congrArg Ending.returned (congrArg (Value.int IntKind.i64) ?_), rfl⟩
  clear h0 h1 h2 e0 e1 w
  revert c
  decide +kernel
set_option maxRecDepth 100000 in
set_option maxHeartbeats 2000000 in
theorem len64_101 (x a : Nat) (c : Fin 256) (h0 : decide ((4294967296 : Int) ≤ (x : Int)) = true) (e0 : ((x : Int) / 4294967296) = (a : Int)) (h1 : decide ((65536 : Int) ≤ (a : Int)) = false) (h2 : decide ((256 : Int) ≤ (a : Int)) = true) (e1 : ((a : Int) / 256) = (c.val : Int)) (w : World) :
    Calls Tryd.prog 75 #[.int .u64 (x : Int)] w fun e w' => e = .returned (.int .i64 (40 + bl c.val : Nat)) ∧ w = w' := by
  have hx := c.isLt
  go_enter Tryd.func75, Tryd.ntmps75
  go_wp2
  go_ret
  refine ⟨congrArg Ending.returned (congrArg (Value.int IntKind.i64) ?_), rfl⟩
  clear h0 h1 h2 e0 e1 w
  revert c
  decide +kernel
theorem len_part (x k c : Nat) (hc : x / 2 ^ k = c) (h256 : c < 256) (h0 : c ≠ 0) : x < 2 ^ (k + bl c) ∧ 2 ^ (k + bl c) ≤ 2 * x ∧ k + bl c ≤ k + 8 := by
  obtain ⟨b1, b2, b3⟩ := bl_fin ⟨c, h256⟩
  have b2' := b2 h0
  dsimp only at b1 b2' b3
  have hp := Nat.two_pow_pos k
  have hd := Nat.div_add_mod' x (2 ^ k)
  have hm := Nat.mod_lt x hp
  rw [hc] at hd
  refine ⟨?_, ?_, by omega⟩
  · rw [Nat.pow_add]
    have : (c + 1) * 2 ^ k ≤ 2 ^ bl c * 2 ^ k := Nat.mul_le_mul_right _ b1
    rw [Nat.add_mul, Nat.one_mul, Nat.mul_comm (2 ^ bl c)] at this
    omega
  · rw [Nat.pow_add]
    have : 2 ^ k * 2 ^ bl c ≤ 2 ^ k * (2 * c) := Nat.mul_le_mul_left _ b2'
    have e : 2 ^ k * (2 * c) = 2 * (c * 2 ^ k) := by rw [Nat.mul_comm, Nat.mul_assoc]
    rw [e] at this
    omega
theorem len64_any (x : Nat) (hx : U x) (h0 : 0 < x) : ∃ l : Nat, x < 2 ^ l ∧ 2 ^ l ≤ 2 * x ∧ l ≤ 64 ∧ ∀ w, Calls Tryd.prog 75 #[.int .u64 (x : Int)] w fun e w' => e = .returned (.int .i64 (l : Nat)) ∧ w = w' := by
  unfold U at hx
  by_cases p : 4294967296 ≤ x
  · by_cases q : 65536 ≤ x / 4294967296
    · by_cases r : 256 ≤ x / 4294967296 / 65536
      · obtain ⟨l1, l2, l3⟩ := len_part x 56 (x / 4294967296 / 65536 / 256) (by omega) (by omega) (by omega)
        exact ⟨_, l1, l2, l3, fun w => len64_111 x (x / 4294967296) (x / 4294967296 / 65536) ⟨x / 4294967296 / 65536 / 256, by omega⟩ (by first | omega | (simp; done) | (simp; omega)) (by first | omega | (simp; done) | (simp; omega)) (by first | omega | (simp; done) | (simp; omega)) (by first | omega | (simp; done) | (simp; omega)) (by first | omega | (simp; done) | (simp; omega)) (by first | omega | (simp; done) | (simp; omega)) w⟩
      · obtain ⟨l1, l2, l3⟩ := len_part x 48 (x / 4294967296 / 65536) (by omega) (by omega) (by omega)
        exact ⟨_, l1, l2, by omega, fun w => len64_110 x (x / 4294967296) ⟨x / 4294967296 / 65536, by omega⟩ (by first | omega | (simp; done) | (simp; omega)) (by first | omega | (simp; done) | (simp; omega)) (by first | omega | (simp; done) | (simp; omega)) (by first | omega | (simp; done) | (simp; omega)) w⟩
    · by_cases r : 256 ≤ x / 4294967296
      · obtain ⟨l1, l2, l3⟩ := len_part x 40 (x / 4294967296 / 256) (by omega) (by omega) (by omega)
        exact ⟨_, l1, l2, by omega, fun w => len64_101 x (x / 4294967296) ⟨x / 4294967296 / 256, by omega⟩ (by first | omega | (simp; done) | (simp; omega)) (by first | omega | (simp; done) | (simp; omega)) (by first | omega | (simp; done) | (simp; omega)) (by first | omega | (simp; done) | (simp; omega)) (by first | omega | (simp; done) | (simp; omega)) w⟩
      · obtain ⟨l1, l2, l3⟩ := len_part x 32 (x / 4294967296) (by omega) (by omega) (by omega)
        exact ⟨_, l1, l2, by omega, fun w => len64_100 x ⟨x / 4294967296, by omega⟩ (by first | omega | (simp; done) | (simp; omega)) (by first | omega | (simp; done) | (simp; omega)) w⟩
  · by_cases q : 65536 ≤ x
    · by_cases r : 256 ≤ x / 65536
      · obtain ⟨l1, l2, l3⟩ := len_part x 24 (x / 65536 / 256) (by omega) (by omega) (by omega)
        exact ⟨_, l1, l2, by omega, fun w => len64_011 x (x / 65536) ⟨x / 65536 / 256, by omega⟩ (by first | omega | (simp; done) | (simp; omega)) (by first | omega | (simp; done) | (simp; omega)) (by first | omega | (simp; done) | (simp; omega)) (by first | omega | (simp; done) | (simp; omega)) (by first | omega | (simp; done) | (simp; omega)) w⟩
      · obtain ⟨l1, l2, l3⟩ := len_part x 16 (x / 65536) (by omega) (by omega) (by omega)
        exact ⟨_, l1, l2, by omega, fun w => len64_010 x ⟨x / 65536, by omega⟩ (by first | omega | (simp; done) | (simp; omega)) (by first | omega | (simp; done) | (simp; omega)) (by first | omega | (simp; done) | (simp; omega)) w⟩
    · by_cases r : 256 ≤ x
      · obtain ⟨l1, l2, l3⟩ := len_part x 8 (x / 256) (by omega) (by omega) (by omega)
        exact ⟨_, l1, l2, by omega, fun w => len64_001 x ⟨x / 256, by omega⟩ (by first | omega | (simp; done) | (simp; omega)) (by first | omega | (simp; done) | (simp; omega)) (by first | omega | (simp; done) | (simp; omega)) (by first | omega | (simp; done) | (simp; omega)) w⟩
      · obtain ⟨l1, l2, l3⟩ := len_part x 0 x (by simp) (by omega) (by omega)
        exact ⟨_, l1, l2, by omega, fun w => len64_000 ⟨x, by omega⟩ w⟩
end Go.Proofs.YtmfoeolllobidaaDoor
