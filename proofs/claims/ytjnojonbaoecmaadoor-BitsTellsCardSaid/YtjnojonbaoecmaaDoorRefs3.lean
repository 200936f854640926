/- The contracts of the document's own answer for layer 1: Number, Add, Sub. -/
import Derived.Test.YtjnojonbaoecmaaDoorRefs2
namespace Go.Proofs.YtjnojonbaoecmaaDoor
open Go.RowKit
set_option maxHeartbeats 1000000 in
theorem rnumber_any (b off len cap : Nat) (z : Nat → Nat) (hz : ∀ j, z j < 256) (w : World) (hc : ∀ j, j < len → w.cell? ⟨b, off + j, none⟩ = some (.int .u8 (z j : Nat))) (hcap : len ≤ cap) :
    Calls Tryd.prog 28 #[.slice (some ⟨b, off, none⟩) len cap] w fun e w' => e = .returned (.int .u64 (numN z (min len 8) : Nat)) ∧ w' = w := by
  go_enter Tryd.func28, Tryd.ntmps28
  go_wp2_with (fail)
  go_loop [3, 4] (fun x i => ∃ k : Nat, k ≤ min len 8 ∧ i = .int .i64 k ∧ x = .int .u64 (numN z k : Nat)) (fun _ i => 8 - (intOf i).toNat)
  case atStart => exact ⟨0, Nat.zero_le _, rfl, rfl⟩
  case round =>
    obtain ⟨k, hk, rfl, rfl⟩ := hrel
    by_cases hlt : k < len
    · by_cases h8 : k < 8
      · have hck := hc k (by omega)
        have HS := Lib.hid (num_step z hz k (by omega))
        have h8' : (k : Int) < 8 := by omega
        go_wp2
        go_round
        case rel => exact ⟨k + 1, by omega, by go_num, congrArg (Value.int IntKind.u64) HS.out⟩
        case measure => simp [intOf]; omega
      · obtain rfl : k = 8 := by omega
        have hm : min len 8 = 8 := by omega
        go_wp2
        go_ret
        exact ⟨rfl, rfl⟩
    · obtain rfl : k = len := by omega
      have hm : min k 8 = k := by omega
      go_wp2
      go_ret
      exact ⟨rfl, rfl⟩
set_option maxHeartbeats 400000 in
theorem rnumber_nil (w : World) :
    Calls Tryd.prog 28 #[.slice none 0 0] w fun e w' => e = .returned (.int .u64 0) ∧ w' = w := by
  go_enter Tryd.func28, Tryd.ntmps28
  go_wp2_with (fail)
  go_loop [3, 4] (fun x i => i = .int .i64 0 ∧ x = .int .u64 0) (fun _ i => 0)
  case atStart => exact ⟨rfl, rfl⟩
  case round =>
    obtain ⟨rfl, rfl⟩ := hrel
    go_wp2
    go_ret
    exact ⟨rfl, rfl⟩
theorem mod_succ (a k : Nat) : a % 2 ^ (k + 1) = a % 2 ^ k + 2 ^ k * (a.testBit k).toNat := by
  rw [Nat.pow_succ, Nat.mod_mul, Nat.toNat_testBit]
/-- The sum of the first k bits of two words and of a carry. -/
def tSum (a b c k : Nat) : Nat := a % 2 ^ k + b % 2 ^ k + c
theorem tSum_succ (a b c k : Nat) : tSum a b c (k + 1) = tSum a b c k % 2 ^ k + 2 ^ k * ((a.testBit k).toNat + (b.testBit k).toNat + tSum a b c k / 2 ^ k) := by
  have h := Nat.div_add_mod (tSum a b c k) (2 ^ k)
  unfold tSum at *
  rw [mod_succ a, mod_succ b, Nat.mul_add, Nat.mul_add]
  omega
theorem part_mod (s p n : Nat) (h : s < p) : (s + p * n) % (p * 2) = s + p * (n % 2) := by
  rw [Nat.mod_mul, Nat.add_mul_mod_self_left, Nat.mod_eq_of_lt h, Nat.add_mul_div_left _ _ (by omega), Nat.div_eq_of_lt h, Nat.zero_add]
theorem part_div (s p n : Nat) (h : s < p) : (s + p * n) / (p * 2) = n / 2 := by
  rw [← Nat.div_div_eq_div_mul, Nat.add_mul_div_left _ _ (by omega), Nat.div_eq_of_lt h, Nat.zero_add]
theorem tSum_car (a b c k : Nat) (hc : c ≤ 1) : tSum a b c k / 2 ^ k ≤ 1 := by
  have h1 := Nat.mod_lt a (Nat.two_pow_pos k)
  have h2 := Nat.mod_lt b (Nat.two_pow_pos k)
  have : tSum a b c k / 2 ^ k < 2 := by
    rw [Nat.div_lt_iff_lt_mul (Nat.two_pow_pos k)]
    unfold tSum; omega
  omega
/-- What one bit comes to. -/
def tBit (a b c k : Nat) : Nat := (a.testBit k).toNat + (b.testBit k).toNat + tSum a b c k / 2 ^ k
theorem tSum_low (a b c k : Nat) : tSum a b c (k + 1) % 2 ^ (k + 1) = tSum a b c k % 2 ^ k + 2 ^ k * (tBit a b c k % 2) := by
  rw [tSum_succ, Nat.pow_succ, part_mod _ _ _ (Nat.mod_lt _ (Nat.two_pow_pos k))]; rfl
theorem tSum_high (a b c k : Nat) : tSum a b c (k + 1) / 2 ^ (k + 1) = tBit a b c k / 2 := by
  rw [tSum_succ, Nat.pow_succ, part_div _ _ _ (Nat.mod_lt _ (Nat.two_pow_pos k))]; rfl
theorem low_step (s k n : Nat) (hs : s < 2 ^ k) (hk : k < 64) (hn : n < 18446744073709551616) : bits BinOp.or IntKind.u64 (s : Int) (IntKind.u64.wrap (bits BinOp.and IntKind.u64 (n : Int) 1 * 2 ^ k)) = ((s + 2 ^ k * (n % 2) : Nat) : Int) := by
  have e64 : (2 : Nat) ^ 64 = 18446744073709551616 := by decide
  have hl : 2 ^ k * 2 ≤ 18446744073709551616 := by rw [← e64, ← Nat.pow_succ]; exact Nat.pow_le_pow_right (by decide) hk
  rw [show ((1 : Int)) = ((1 : Nat) : Int) from rfl, u64_and_nat _ _ hn (by decide), Nat.and_one_is_mod]
  have hb : n % 2 * 2 ^ k ≤ 1 * 2 ^ k := Nat.mul_le_mul_right _ (by omega)
  have hw : IntKind.u64.wrap (((n % 2 : Nat) : Int) * 2 ^ k) = ((n % 2 * 2 ^ k : Nat) : Int) := by
    rw [IntKind.wrap_u64, show (((n % 2 : Nat) : Int) * 2 ^ k) = ((n % 2 * 2 ^ k : Nat) : Int) by simp]
    exact Int.emod_eq_of_lt (by omega) (by omega)
  rw [hw, u64_or_nat _ _ (by omega) (by omega), Nat.or_comm, nat_join k _ _ (Nat.mul_mod_left _ _) hs, Nat.add_comm, Nat.mul_comm]
theorem tBit_le (a b c k : Nat) (hc : c ≤ 1) : tBit a b c k ≤ 3 := by
  have h1 := Bool.toNat_le (a.testBit k)
  have h2 := Bool.toNat_le (b.testBit k)
  have h3 := tSum_car a b c k hc
  unfold tBit; omega
theorem tSum_step (a b c k : Nat) (hc : c ≤ 1) (hk : k < 64) : bits BinOp.or IntKind.u64 ((tSum a b c k % 2 ^ k : Nat) : Int) (IntKind.u64.wrap (bits BinOp.and IntKind.u64 ((tBit a b c k : Nat) : Int) 1 * 2 ^ k)) = ((tSum a b c (k + 1) % 2 ^ (k + 1) : Nat) : Int) := by
  have := tBit_le a b c k hc
  rw [low_step _ _ _ (Nat.mod_lt _ (Nat.two_pow_pos k)) hk (by omega), tSum_low]
def lowN (a b c k : Nat) : Nat := tSum a b c k % 2 ^ k
def carN (a b c k : Nat) : Nat := tSum a b c k / 2 ^ k
theorem lowN_lt (a b c k : Nat) : lowN a b c k < 2 ^ k := Nat.mod_lt _ (Nat.two_pow_pos k)
theorem carN_le (a b c k : Nat) (hc : c ≤ 1) : carN a b c k ≤ 1 := tSum_car a b c k hc
theorem low_next (a b c k : Nat) (hc : c ≤ 1) (hk : k < 64) : bits BinOp.or IntKind.u64 ((lowN a b c k : Nat) : Int) (IntKind.u64.wrap (bits BinOp.and IntKind.u64 (((a.testBit k).toNat : Nat) + ((b.testBit k).toNat : Nat) + (carN a b c k : Nat)) 1 * 2 ^ k)) = ((lowN a b c (k + 1) : Nat) : Int) := by
  have := tSum_step a b c k hc hk
  have e : ((tBit a b c k : Nat) : Int) = ((a.testBit k).toNat : Nat) + ((b.testBit k).toNat : Nat) + (carN a b c k : Nat) := by unfold tBit carN; omega
  rw [e] at this
  exact this
theorem car_next (a b c k : Nat) : carN a b c (k + 1) = ((a.testBit k).toNat + (b.testBit k).toNat + carN a b c k) / 2 := tSum_high a b c k
theorem add_low (a b : Nat) (cy : Bool) (wd : Int) : addR a b cy wd = lowN a b (b1 cy) (8 * hN wd) := by rw [addR_val]; rfl
theorem add_car (a b : Nat) (cy : Bool) (wd : Int) : addO a b cy wd = (((carN a b (b1 cy) (8 * hN wd) : Nat) : Int) == 1) := by
  rw [addO_val]
  have h1 := cN_lt a wd
  have h2 := cN_lt b wd
  have h3 := b1_le cy
  have e : carN a b (b1 cy) (8 * hN wd) = (cN a wd + cN b wd + b1 cy) / 2 ^ (8 * hN wd) := rfl
  rw [e]
  rw [Bool.eq_iff_iff]
  simp only [decide_eq_true_eq, beq_iff_eq]
  rcases hN_cases wd with h | h | h | h | h | h | h | h <;> rw [h] at h1 h2 ⊢ <;> simp only [Nat.reduceMul, Nat.reducePow] at * <;> omega
theorem add_ran (a b : Nat) (cy : Bool) (wd : Int) : addV a b cy wd = ((sB a wd == sB b wd) && (sB (lowN a b (b1 cy) (8 * hN wd)) wd != sB a wd)) := by
  have e : addV a b cy wd = vB true (sB (cN a wd) wd) (sB (cN b wd) wd) (sB (addR a b cy wd) wd) := rfl
  rw [e, add_low, sB_cN, sB_cN]
  unfold vB
  simp
theorem low_U (a b c : Nat) (wd : Int) : U (lowN a b c (8 * hN wd)) := Nat.lt_of_lt_of_le (lowN_lt _ _ _ _) (mN_lt wd)
set_option maxHeartbeats 1000000 in
theorem radd_any (a b : Nat) (ha : U a) (hb : U b) (cy : Bool) (wd : Int) (w : World) :
    Calls Tryd.prog 10 #[.int .u64 a, .int .u64 b, .bool cy, .int .i64 wd] w fun e w' => e = .returned (.tuple #[.int .u64 (addR a b cy wd : Nat), .bool (addO a b cy wd), .bool (addV a b cy wd)]) ∧ w = w' := by
  have hbd := hN_bd wd
  have hIN := hI_N wd
  have hc1 := b1_le cy
  have EA := Lib.hid (add_low a b cy wd)
  have EO := Lib.hid (add_car a b cy wd)
  have EV := Lib.hid (add_ran a b cy wd)
  generalize hC : b1 cy = C at hc1 EA EO EV
  have hlU := low_U a b C wd
  go_enter Tryd.func10, Tryd.ntmps10
  go_wp2_with (first | (go_at_call 32; refine (one_any _ _).mono ?_; rintro e w' ⟨rfl, rfl⟩))
  go_loop [11, 12, 13] (fun c s i => ∃ k : Nat, k ≤ 8 * hN wd ∧ i = .int .i64 k ∧ c = .int .u64 (carN a b C k : Nat) ∧ s = .int .u64 (lowN a b C k : Nat)) (fun _ _ i => 8 * hN wd - (intOf i).toNat)
  case atStart => exact ⟨0, Nat.zero_le _, rfl, by simp [carN, tSum, Nat.mod_one], by simp [lowN, Nat.mod_one]⟩
  case round =>
    obtain ⟨k, hk, rfl, rfl, rfl⟩ := hrel
    by_cases hlt : k < 8 * hN wd
    · have hx := bit_val a k ha
      have hy := bit_val b k hb
      have t1 := Bool.toNat_le (a.testBit k)
      have t2 := Bool.toNat_le (b.testBit k)
      have t3 := carN_le a b C k hc1
      have HS := Lib.hid (low_next a b C k hc1 (by omega))
      have HH := Lib.hid (car_next a b C k)
      clear hlU
      go_wp2_with (go_at_call 33; refine (wide_any _ _).mono ?_; rintro e w' ⟨rfl, rfl⟩)
      go_round
      case rel => exact ⟨k + 1, by omega, by go_num, congrArg (Value.int IntKind.u64) (by rw [HH.out]; go_num), congrArg (Value.int IntKind.u64) HS.out⟩
      case measure => simp [intOf]; omega
    · obtain rfl : k = 8 * hN wd := by omega
      go_wp2_with (first | (go_at_call 33; refine (wide_any _ _).mono ?_; rintro e w' ⟨rfl, rfl⟩) | (go_at_call 18; refine (rsign_any _ (by assumption) _ _).mono ?_; rintro e w' ⟨rfl, rfl⟩))
      all_goals
        go_ret3
        refine ⟨?_, rfl⟩
        rw [EA.out, EO.out, EV.out]
        simp_all [bne]
end Go.Proofs.YtjnojonbaoecmaaDoor
