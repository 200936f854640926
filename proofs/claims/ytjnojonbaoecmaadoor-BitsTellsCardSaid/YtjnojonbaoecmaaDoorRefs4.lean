/- The contract of the document's own answer for layer 1: Sub. -/
import Derived.Test.YtjnojonbaoecmaaDoorRefs3
namespace Go.Proofs.YtjnojonbaoecmaaDoor
open Go.RowKit
def eSub (a b c k : Nat) : Nat := a % 2 ^ k + 2 ^ k - b % 2 ^ k - c
def rlow (a b c k : Nat) : Nat := eSub a b c k % 2 ^ k
def rbor (a b c k : Nat) : Nat := 1 - eSub a b c k / 2 ^ k
def mSub (a b c k : Nat) : Nat := (a.testBit k).toNat + 2 - (b.testBit k).toNat - rbor a b c k
theorem rlow_lt (a b c k : Nat) : rlow a b c k < 2 ^ k := Nat.mod_lt _ (Nat.two_pow_pos k)
theorem rbor_le (a b c k : Nat) : rbor a b c k ≤ 1 := Nat.sub_le _ _
theorem eSub_div (a b c k : Nat) : eSub a b c k / 2 ^ k ≤ 1 := by
  have h1 := Nat.mod_lt a (Nat.two_pow_pos k)
  have : eSub a b c k / 2 ^ k < 2 := by
    rw [Nat.div_lt_iff_lt_mul (Nat.two_pow_pos k)]
    unfold eSub; omega
  omega
theorem eSub_succ (a b c k : Nat) (hc : c ≤ 1) : eSub a b c (k + 1) = rlow a b c k + 2 ^ k * mSub a b c k := by
  have h0 := Nat.two_pow_pos k
  have h := Nat.div_add_mod (eSub a b c k) (2 ^ k)
  have hd := eSub_div a b c k
  have h1 := Bool.toNat_le (a.testBit k)
  have h2 := Bool.toNat_le (b.testBit k)
  have hb := Nat.mod_lt b (Nat.two_pow_pos k)
  have ha := Nat.mod_lt a (Nat.two_pow_pos k)
  have e : eSub a b c (k + 1) = (a % 2 ^ k + 2 ^ k * (a.testBit k).toNat) + 2 ^ k * 2 - (b % 2 ^ k + 2 ^ k * (b.testBit k).toNat) - c := by
    unfold eSub; rw [mod_succ a, mod_succ b, Nat.pow_succ]
  rw [e]
  unfold mSub rlow rbor
  have e2 : eSub a b c k = a % 2 ^ k + 2 ^ k - b % 2 ^ k - c := rfl
  generalize eSub a b c k = E at *
  generalize 2 ^ k = p at *
  generalize a % p = x at *
  generalize b % p = y at *
  generalize E % p = r at *
  generalize E / p = q at *
  generalize (a.testBit k).toNat = u at *
  generalize (b.testBit k).toNat = v at *
  have hq : q = 0 ∨ q = 1 := by omega
  have hu : u = 0 ∨ u = 1 := by omega
  have hv : v = 0 ∨ v = 1 := by omega
  rcases hq with rfl | rfl <;> rcases hu with rfl | rfl <;> rcases hv with rfl | rfl <;> simp at h ⊢ <;> omega
theorem mSub_le (a b c k : Nat) : mSub a b c k ≤ 3 := by
  have h1 := Bool.toNat_le (a.testBit k)
  unfold mSub; omega
theorem rlow_next (a b c k : Nat) (hc : c ≤ 1) : rlow a b c (k + 1) = rlow a b c k + 2 ^ k * (mSub a b c k % 2) := by
  have : rlow a b c (k + 1) = eSub a b c (k + 1) % 2 ^ (k + 1) := rfl
  rw [this, eSub_succ a b c k hc, Nat.pow_succ, part_mod _ _ _ (rlow_lt a b c k)]
theorem rbor_next (a b c k : Nat) (hc : c ≤ 1) : rbor a b c (k + 1) = 1 - mSub a b c k / 2 := by
  have : rbor a b c (k + 1) = 1 - eSub a b c (k + 1) / 2 ^ (k + 1) := rfl
  rw [this, eSub_succ a b c k hc, Nat.pow_succ, part_div _ _ _ (rlow_lt a b c k)]
theorem or_step (s k n : Nat) (hs : s < 2 ^ k) (hk : k < 64) (hn : n ≤ 1) : bits BinOp.or IntKind.u64 (s : Int) (IntKind.u64.wrap ((n : Int) * 2 ^ k)) = ((s + 2 ^ k * n : Nat) : Int) := by
  have e64 : (2 : Nat) ^ 64 = 18446744073709551616 := by decide
  have hl : 2 ^ k * 2 ≤ 18446744073709551616 := by rw [← e64, ← Nat.pow_succ]; exact Nat.pow_le_pow_right (by decide) hk
  have hb : n * 2 ^ k ≤ 1 * 2 ^ k := Nat.mul_le_mul_right _ hn
  have hw : IntKind.u64.wrap ((n : Int) * 2 ^ k) = ((n * 2 ^ k : Nat) : Int) := by
    rw [IntKind.wrap_u64, show ((n : Int) * 2 ^ k) = ((n * 2 ^ k : Nat) : Int) by simp]
    exact Int.emod_eq_of_lt (by omega) (by omega)
  rw [hw, u64_or_nat _ _ (by omega) (by omega), Nat.or_comm, nat_join k _ _ (Nat.mul_mod_left _ _) hs, Nat.add_comm, Nat.mul_comm]
theorem low_neg (a b c k : Nat) (hc : c ≤ 1) (hk : k < 64) (hn : ((a.testBit k).toNat : Int) - (b.testBit k).toNat - rbor a b c k < 0) : bits BinOp.or IntKind.u64 ((rlow a b c k : Nat) : Int) (IntKind.u64.wrap ((((a.testBit k).toNat : Int) - (b.testBit k).toNat - rbor a b c k + 2) * 2 ^ k)) = ((rlow a b c (k + 1) : Nat) : Int) := by
  have h1 := Bool.toNat_le (a.testBit k)
  have h2 := Bool.toNat_le (b.testBit k)
  have h3 := rbor_le a b c k
  have e : (((a.testBit k).toNat : Int) - (b.testBit k).toNat - rbor a b c k + 2) = ((mSub a b c k : Nat) : Int) := by unfold mSub; omega
  have hm : mSub a b c k ≤ 1 := by omega
  rw [e, or_step _ _ _ (rlow_lt a b c k) hk hm, rlow_next a b c k hc, Nat.mod_eq_of_lt (by omega)]
theorem low_pos (a b c k : Nat) (hc : c ≤ 1) (hk : k < 64) (hn : ¬ ((a.testBit k).toNat : Int) - (b.testBit k).toNat - rbor a b c k < 0) : bits BinOp.or IntKind.u64 ((rlow a b c k : Nat) : Int) (IntKind.u64.wrap ((((a.testBit k).toNat : Int) - (b.testBit k).toNat - rbor a b c k) * 2 ^ k)) = ((rlow a b c (k + 1) : Nat) : Int) := by
  have h1 := Bool.toNat_le (a.testBit k)
  have h2 := Bool.toNat_le (b.testBit k)
  have h3 := rbor_le a b c k
  have e : (((a.testBit k).toNat : Int) - (b.testBit k).toNat - rbor a b c k) = ((mSub a b c k - 2 : Nat) : Int) := by unfold mSub; omega
  have hm : 2 ≤ mSub a b c k := by unfold mSub; omega
  have hm3 := mSub_le a b c k
  have e2 : mSub a b c k % 2 = mSub a b c k - 2 := by omega
  rw [e, or_step _ _ _ (rlow_lt a b c k) hk (by omega), rlow_next a b c k hc, e2]
theorem bor_neg (a b c k : Nat) (hc : c ≤ 1) (hn : ((a.testBit k).toNat : Int) - (b.testBit k).toNat - rbor a b c k < 0) : rbor a b c (k + 1) = 1 := by
  have h1 := Bool.toNat_le (a.testBit k)
  have h2 := Bool.toNat_le (b.testBit k)
  have h3 := rbor_le a b c k
  have hm : mSub a b c k ≤ 1 := by unfold mSub; omega
  rw [rbor_next a b c k hc]; omega
theorem bor_pos (a b c k : Nat) (hc : c ≤ 1) (hn : ¬ ((a.testBit k).toNat : Int) - (b.testBit k).toNat - rbor a b c k < 0) : rbor a b c (k + 1) = 0 := by
  have h1 := Bool.toNat_le (a.testBit k)
  have h2 := Bool.toNat_le (b.testBit k)
  have h3 := rbor_le a b c k
  have hm : 2 ≤ mSub a b c k := by unfold mSub; omega
  have hm3 := mSub_le a b c k
  rw [rbor_next a b c k hc]; omega
theorem sub_low (a b : Nat) (cy : Bool) (wd : Int) : subR a b cy wd = rlow a b (b1 cy) (8 * hN wd) := by
  have h2 := cN_lt b wd
  have h3 := b1_le cy
  rw [subR_val]
  have e : cN a wd + 2 ^ (8 * hN wd) * 2 - cN b wd - b1 cy = eSub a b (b1 cy) (8 * hN wd) + 2 ^ (8 * hN wd) := by
    have e2 : eSub a b (b1 cy) (8 * hN wd) = cN a wd + 2 ^ (8 * hN wd) - cN b wd - b1 cy := rfl
    rw [e2]; omega
  rw [e, Nat.add_mod_right]; rfl
theorem sub_bor (a b : Nat) (cy : Bool) (wd : Int) : subO a b cy wd = (((rbor a b (b1 cy) (8 * hN wd) : Nat) : Int) == 1) := by
  rw [subO_val]
  have h1 := cN_lt a wd
  have h2 := cN_lt b wd
  have h3 := b1_le cy
  have e : rbor a b (b1 cy) (8 * hN wd) = 1 - (cN a wd + 2 ^ (8 * hN wd) - cN b wd - b1 cy) / 2 ^ (8 * hN wd) := rfl
  rw [e]
  rw [Bool.eq_iff_iff]
  simp only [decide_eq_true_eq, beq_iff_eq]
  rcases hN_cases wd with h | h | h | h | h | h | h | h <;> rw [h] at h1 h2 ⊢ <;> simp only [Nat.reduceMul, Nat.reducePow] at * <;> omega
theorem sub_ran (a b : Nat) (cy : Bool) (wd : Int) : subV a b cy wd = (!(sB a wd == sB b wd) && (sB (rlow a b (b1 cy) (8 * hN wd)) wd != sB a wd)) := by
  have e : subV a b cy wd = vB false (sB (cN a wd) wd) (sB (cN b wd) wd) (sB (subR a b cy wd) wd) := rfl
  rw [e, sub_low, sB_cN, sB_cN]
  unfold vB
  simp
theorem rlow_U (a b c : Nat) (wd : Int) : U (rlow a b c (8 * hN wd)) := Nat.lt_of_lt_of_le (rlow_lt _ _ _ _) (mN_lt wd)
set_option maxHeartbeats 1000000 in
theorem rsub_any (a b : Nat) (ha : U a) (hb : U b) (cy : Bool) (wd : Int) (w : World) :
    Calls Tryd.prog 12 #[.int .u64 a, .int .u64 b, .bool cy, .int .i64 wd] w fun e w' => e = .returned (.tuple #[.int .u64 (subR a b cy wd : Nat), .bool (subO a b cy wd), .bool (subV a b cy wd)]) ∧ w = w' := by
  have hbd := hN_bd wd
  have hIN := hI_N wd
  have hc1 := b1_le cy
  have EA := Lib.hid (sub_low a b cy wd)
  have EO := Lib.hid (sub_bor a b cy wd)
  have EV := Lib.hid (sub_ran a b cy wd)
  generalize hC : b1 cy = C at hc1 EA EO EV
  have hlU := rlow_U a b C wd
  have hwC : wrap64 (C : Int) = C := by unfold wrap64; omega
  go_enter Tryd.func12, Tryd.ntmps12
  go_wp2_with (first | (go_at_call 32; refine (one_any _ _).mono ?_; rintro e w' ⟨rfl, rfl⟩))
  go_loop [11, 12, 13] (fun c s i => ∃ k : Nat, k ≤ 8 * hN wd ∧ i = .int .i64 k ∧ c = .int .i64 (rbor a b C k : Nat) ∧ s = .int .u64 (rlow a b C k : Nat)) (fun _ _ i => 8 * hN wd - (intOf i).toNat)
  case atStart => exact ⟨0, Nat.zero_le _, rfl, congrArg (Value.int IntKind.i64) (by simp [rbor, eSub, Nat.mod_one]; omega), by simp [rlow, Nat.mod_one]⟩
  case round =>
    obtain ⟨k, hk, rfl, rfl, rfl⟩ := hrel
    by_cases hlt : k < 8 * hN wd
    · have hx := bit_val a k ha
      have hy := bit_val b k hb
      have t1 := Bool.toNat_le (a.testBit k)
      have t2 := Bool.toNat_le (b.testBit k)
      have t3 := rbor_le a b C k
      clear hlU
      by_cases hn : ((a.testBit k).toNat : Int) - (b.testBit k).toNat - rbor a b C k < 0
      · have HS := Lib.hid (low_neg a b C k hc1 (by omega) hn)
        have HB := Lib.hid (bor_neg a b C k hc1 hn)
        go_wp2_with (go_at_call 33; refine (wide_any _ _).mono ?_; rintro e w' ⟨rfl, rfl⟩)
        go_round
        case rel => exact ⟨k + 1, by omega, by go_num, congrArg (Value.int IntKind.i64) (by rw [HB.out]; rfl), congrArg (Value.int IntKind.u64) HS.out⟩
        case measure => simp [intOf]; omega
      · have HS := Lib.hid (low_pos a b C k hc1 (by omega) hn)
        have HB := Lib.hid (bor_pos a b C k hc1 hn)
        go_wp2_with (go_at_call 33; refine (wide_any _ _).mono ?_; rintro e w' ⟨rfl, rfl⟩)
        go_round
        case rel => exact ⟨k + 1, by omega, by go_num, congrArg (Value.int IntKind.i64) (by rw [HB.out]; rfl), congrArg (Value.int IntKind.u64) HS.out⟩
        case measure => simp [intOf]; omega
    · obtain rfl : k = 8 * hN wd := by omega
      go_wp2_with (first | (go_at_call 33; refine (wide_any _ _).mono ?_; rintro e w' ⟨rfl, rfl⟩) | (go_at_call 18; refine (rsign_any _ (by assumption) _ _).mono ?_; rintro e w' ⟨rfl, rfl⟩))
      all_goals
        go_ret3
        refine ⟨?_, rfl⟩
        rw [EA.out, EO.out, EV.out]
        simp_all [bne]
end Go.Proofs.YtjnojonbaoecmaaDoor
