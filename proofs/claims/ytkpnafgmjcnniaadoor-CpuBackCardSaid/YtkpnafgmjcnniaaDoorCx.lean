/- CpuBack, for all values. -/
import Derived.Test.YtkpnafgmjcnniaaDoorCz
import Derived.Test.YtkpnafgmjcnniaaDoorCz2
namespace Go.Proofs.YtkpnafgmjcnniaaDoor
open Go.RowKit
set_option linter.unusedVariables false
set_option linter.unusedSimpArgs false
theorem xor_part (q m k : Nat) (hm : m < 2 ^ k) : (2 ^ k * q + m) ^^^ m = 2 ^ k * q := by
  apply Nat.eq_of_testBit_eq
  intro j
  rw [Nat.testBit_xor, Nat.testBit_two_pow_mul_add q hm, Nat.testBit_two_pow_mul]
  by_cases h : j < k
  · have : ¬ j ≥ k := by omega
    simp [h, this]
  · have h2 : m.testBit j = false := Nat.testBit_lt_two_pow (Nat.lt_of_lt_of_le hm (Nat.pow_le_pow_right (by decide) (by omega)))
    have : j ≥ k := by omega
    simp [h, h2, this]
theorem part_A (a x k m : Nat) (ha : a < 18446744073709551616) (hk : k ≤ 64) (hm : m < 18446744073709551616) (hM : 18446744073709551615 - m = 2 ^ k * (2 ^ (64 - k) - 1)) (hl : 2 ^ k * (a / 2 ^ k) + x % 2 ^ k < 18446744073709551616) :
    bits .xor .u64 ((2 ^ k * (a / 2 ^ k) + x % 2 ^ k : Nat) : Int) ((x % 2 ^ k : Nat) : Int) = ((2 ^ k * (a / 2 ^ k) : Nat) : Int) ∧ bits .andNot .u64 (a : Int) (m : Int) = ((2 ^ k * (a / 2 ^ k) : Nat) : Int) := by
  constructor
  · rw [u64_xor_nat _ _ hl (by omega), xor_part _ _ _ (Nat.mod_lt _ (Nat.two_pow_pos k))]
  · rw [u64_andNot_nat a m ha hm, hM, and_high a k ha hk]
theorem xor_self (a : Nat) (ha : a < 18446744073709551616) : bits .xor .u64 (a : Int) (a : Int) = 0 := by
  rw [u64_xor_nat a a ha ha, Nat.xor_self]; rfl
theorem back9_walk (c : Array Value) (r wd x : Int) (hF : CPUF c) (_hr : (Lit.int .i64 r).wf = true) (_hw : (Lit.int .i64 wd).wf = true) (hx : (Lit.int .u64 x).wf = true) {w : World} (_W : World) (hm : Mk w) :
    Calls Tryd.prog 9 #[.agg c, .int .i64 r, .int .i64 wd, .int .u64 x] w fun e w' => e = .returned (.bool true) ∧ Below w.heap.size w w' := by
  have hxb := Go.bounds_u64 hx
  obtain ⟨X, rfl⟩ := Int.eq_ofNat_of_zero_le hxb.1
  have hX : X < 18446744073709551616 := by omega
  by_cases hv : 0 ≤ r ∧ r ≤ 15 ∧ (wd = 1 ∨ wd = 2 ∨ wd = 4 ∨ wd = 8)
  · obtain ⟨h0, h1, hwd⟩ := hv
    obtain ⟨i, rfl⟩ := Int.eq_ofNat_of_zero_le h0
    have hi : i < 16 := by omega
    have hii : ((i : Int) % 16).toNat = i := by omega
    have hc := hF.cpu
    have ha := hc.lt i
    have hS := fun W => set_any c (regN c) hc i wd X hX W
    rw [hii] at hS
    have hVl := stN_lt (regN c i) X ha hX wd
    have hD := hc.set i (stN (regN c i) X wd) hi hVl
    have hG := fun W => get_any _ _ hD i wd W
    have hgt : gtN (if ((i : Int) % 16).toNat = i then stN (regN c i) X wd else regN c ((i : Int) % 16).toNat) wd = gtN X wd := by
      rw [if_pos hii]; exact gt_st _ _ _
    rw [hgt] at hG
    have hS2 := fun W => set_any _ _ hD i wd (regN c i) ha W
    rw [hii] at hS2
    rw [show (if i = i then stN (regN c i) X wd else regN c i) = stN (regN c i) X wd from if_pos rfl] at hS2
    have hEi : ∀ v : Value, ((c.setIfInBounds i (.int .u64 ((stN (regN c i) X wd : Nat) : Int))).setIfInBounds i v)[i]? = some v := fun v => by
      rw [Array.getElem?_setIfInBounds_self_of_lt (by simp [hF.size]; omega)]
    have hEs : ∀ v : Value, ((c.setIfInBounds i (.int .u64 ((stN (regN c i) X wd : Nat) : Int))).setIfInBounds i v).size = 278 := fun v => by simp [hF.size]
    rcases hwd with rfl | rfl | rfl | rfl
    · have e2 : stN (stN (regN c i) X 1) (regN c i) 1 = regN c i := by show 256 * ((256 * (regN c i / 256) + X % 256) / 256) + regN c i % 256 = regN c i; omega
      rw [e2] at hS2
      have hA := part_A (regN c i) X 8 255 ha (by omega) (by decide) rfl hVl
      exact cback_1 c (regN c) hF hc i hi X (X % 256) (stN (regN c i) X 1) (and_mask X hX 8 (by omega)) hX hVl w hm _ hA.1 hA.2 _ (hEi _) (hEs _) hS2 hS hG
    · have e2 : stN (stN (regN c i) X 2) (regN c i) 2 = regN c i := by show 65536 * ((65536 * (regN c i / 65536) + X % 65536) / 65536) + regN c i % 65536 = regN c i; omega
      rw [e2] at hS2
      have hA := part_A (regN c i) X 16 65535 ha (by omega) (by decide) rfl hVl
      exact cback_2 c (regN c) hF hc i hi X (X % 65536) (stN (regN c i) X 2) (and_mask X hX 16 (by omega)) hX hVl w hm _ hA.1 hA.2 _ (hEi _) (hEs _) hS2 hS hG
    · exact cback_4 c (regN c) hF hc i hi X (X % 4294967296) (stN (regN c i) X 4) (and_mask X hX 32 (by omega)) hX hVl w hm (xor_self _ (by omega)) hS hG
    · exact cback_8 c (regN c) hF hc i hi X X (stN (regN c i) X 8) rfl hX hVl w hm (xor_self _ hX) hS hG
  · refine cback_out c r wd X w hm ?_
    by_cases h0 : r < 0
    · exact .inl h0
    · by_cases h1 : 15 < r
      · exact .inr (.inl h1)
      · refine .inr (.inr ?_)
        simp only [beq_eq_false_iff_ne, ne_eq]
        omega
end Go.Proofs.YtkpnafgmjcnniaaDoor
