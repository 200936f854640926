/- Products without carries: their laws. -/
import Derived.Test.YtldicconopcipaaH
import Derived.Test.YtldicconopcipaaQ
namespace Go.Proofs.Ytldicconopcipaa
open Go.RowKit
/-- The product without carries, as one number. -/
def mF (a b : Nat) : Nat → Nat
  | 0 => 0
  | k + 1 => mF a b k ^^^ (if b.testBit k then a <<< k else 0)
def xs : Nat → (Nat → Bool) → Bool
  | 0, _ => false
  | k + 1, f => xor (xs k f) (f k)
theorem xs_congr {f g : Nat → Bool} (k : Nat) (h : ∀ i, i < k → f i = g i) : xs k f = xs k g := by
  induction k with
  | zero => rfl
  | succ k ih => unfold xs; rw [ih (fun i hi => h i (by omega)), h k (by omega)]
theorem xs_head (k : Nat) (f : Nat → Bool) : xs (k + 1) f = xor (f 0) (xs k (fun i => f (i + 1))) := by
  induction k with
  | zero => simp [xs]
  | succ k ih =>
    show xor (xs (k + 1) f) (f (k + 1)) = xor (f 0) (xor (xs k (fun i => f (i + 1))) (f (k + 1)))
    rw [ih, Bool.xor_assoc]
theorem xs_back (k : Nat) (f : Nat → Bool) : xs k (fun i => f (k - 1 - i)) = xs k f := by
  induction k generalizing f with
  | zero => rfl
  | succ k ih =>
    rw [xs_head]
    show xor (f (k + 1 - 1 - 0)) (xs k (fun i => f (k + 1 - 1 - (i + 1)))) = xor (xs k f) (f k)
    rw [Bool.xor_comm, show k + 1 - 1 - 0 = k by omega, ← ih f]
    congr 1
    exact xs_congr k fun i hi => by congr 1; omega
theorem xs_more (k m : Nat) (f : Nat → Bool) (h : ∀ i, k ≤ i → f i = false) : xs (k + m) f = xs k f := by
  induction m with
  | zero => rfl
  | succ m ih =>
    show xor (xs (k + m) f) (f (k + m)) = xs k f
    rw [ih, h (k + m) (by omega), Bool.xor_false]
theorem mF_bit (a b n k : Nat) : (mF a b n).testBit k = xs n (fun i => b.testBit i && (decide (k ≥ i) && a.testBit (k - i))) := by
  induction n with
  | zero => simp [mF, xs]
  | succ n ih =>
    unfold mF xs
    rw [Nat.testBit_xor, ih]
    congr 1
    show _ = (b.testBit n && (decide (k ≥ n) && a.testBit (k - n)))
    cases b.testBit n
    · rw [Bool.false_and, if_neg (by decide), Nat.zero_testBit]
    · rw [Bool.true_and, if_pos rfl, Nat.testBit_shiftLeft]
theorem high_bit {a i : Nat} (h : a < 18446744073709551616) (hi : 64 ≤ i) : a.testBit i = false :=
  Nat.testBit_lt_two_pow (Nat.lt_of_lt_of_le h (Nat.pow_le_pow_right (n := 2) (by decide) hi))
theorem mF_comm (a b : Nat) (ha : U a) (hb : U b) : mF a b 64 = mF b a 64 := by
  apply Nat.eq_of_testBit_eq
  intro k
  have go : ∀ (a b : Nat), U a → U b → xs 64 (fun i => b.testBit i && (decide (k ≥ i) && a.testBit (k - i))) = xs (k + 1) (fun i => b.testBit i && a.testBit (k - i)) := by
    intro a b ha hb
    have h1 : xs (64 + (k + 1)) (fun i => b.testBit i && (decide (k ≥ i) && a.testBit (k - i))) = xs 64 (fun i => b.testBit i && (decide (k ≥ i) && a.testBit (k - i))) :=
      xs_more 64 (k + 1) _ fun i hi => by rw [high_bit hb hi]; rfl
    have h2 : xs ((k + 1) + 64) (fun i => b.testBit i && (decide (k ≥ i) && a.testBit (k - i))) = xs (k + 1) (fun i => b.testBit i && (decide (k ≥ i) && a.testBit (k - i))) :=
      xs_more (k + 1) 64 _ fun i hi => by rw [decide_eq_false (show ¬ k ≥ i by omega)]; simp
    rw [← h1, Nat.add_comm, h2]
    exact xs_congr _ fun i hi => by rw [decide_eq_true (show k ≥ i by omega)]; simp
  rw [mF_bit, mF_bit, go a b ha hb, go b a hb ha, ← xs_back (k + 1) (fun i => a.testBit i && b.testBit (k - i))]
  exact xs_congr _ fun i hi => by
    rw [show k + 1 - 1 - i = k - i by omega, show k - (k - i) = i by omega, Bool.and_comm]
theorem mF_xor (a c b k : Nat) : mF (a ^^^ c) b k = mF a b k ^^^ mF c b k := by
  apply Nat.eq_of_testBit_eq
  intro j
  rw [Nat.testBit_xor, mF_bit, mF_bit, mF_bit]
  induction k with
  | zero => rfl
  | succ k ih =>
    unfold xs
    rw [ih]
    dsimp only
    rw [Nat.testBit_xor]
    generalize xs k _ = p
    generalize xs k _ = q
    cases b.testBit k <;> cases decide (j ≥ k) <;> cases a.testBit (j - k) <;> cases c.testBit (j - k) <;> cases p <;> cases q <;> rfl
theorem bitB_test (b i : Nat) : bitB b i = b.testBit i := by
  unfold bitB
  rw [Nat.testBit_eq_decide_div_mod_eq]
  have h : b / 2 ^ i % 2 < 2 := Nat.mod_lt _ (by decide)
  generalize b / 2 ^ i % 2 = r at h
  match r, h with
  | 0, _ => rfl
  | 1, _ => rfl
theorem mF_lt (a b k : Nat) (ha : U a) (hk : k ≤ 64) : mF a b k < 2 ^ 128 := by
  induction k with
  | zero => exact Nat.two_pow_pos 128
  | succ k ih =>
    unfold mF
    refine Nat.xor_lt_two_pow (ih (by omega)) ?_
    split
    · rw [Nat.shiftLeft_eq]
      have h1 : a < 2 ^ 64 := ha
      have h2 : 2 ^ k ≤ 2 ^ 64 := Nat.pow_le_pow_right (by decide) (by omega)
      calc a * 2 ^ k < 2 ^ 64 * 2 ^ k := Nat.mul_lt_mul_of_pos_right h1 (Nat.two_pow_pos k)
        _ ≤ 2 ^ 64 * 2 ^ 64 := Nat.mul_le_mul_left _ h2
        _ = 2 ^ 128 := by decide
    · exact Nat.two_pow_pos 128
theorem wrap_mod (n : Nat) : IntKind.u64.wrap (n : Int) = ((n % 18446744073709551616 : Nat) : Int) := by
  simp [IntKind.wrap, IntKind.bits, IntKind.signed]
theorem wrap_shl (a k : Nat) : IntKind.u64.wrap ((a : Int) * 2 ^ k) = (((a <<< k) % 2 ^ 64 : Nat) : Int) := by
  have h : (a : Int) * 2 ^ k = ((a <<< k : Nat) : Int) := by rw [Nat.shiftLeft_eq]; simp
  rw [h, wrap_mod]
theorem shr_hi (a k : Nat) (hk : k ≤ 64) : (a : Int) / 2 ^ (64 - k) = (((a <<< k) / 2 ^ 64 : Nat) : Int) := by
  rw [Nat.shiftLeft_eq, show (2 : Nat) ^ 64 = 2 ^ (64 - k) * 2 ^ k by rw [← Nat.pow_add]; congr 1; omega, Nat.mul_div_mul_right _ _ (Nat.two_pow_pos k), Int.natCast_ediv]
  simp
theorem lo_lt (n : Nat) : n % 2 ^ 64 < 18446744073709551616 := Nat.mod_lt _ (by decide)
theorem hi_lt (n : Nat) (h : n < 2 ^ 128) : n / 2 ^ 64 < 18446744073709551616 := Nat.div_lt_of_lt_mul (by simpa using h)
theorem clL_mF (a b k : Nat) (hk : k ≤ 64) : clL a (onesU b k) = ((mF a b k % 2 ^ 64 : Nat) : Int) := by
  induction k with
  | zero => rfl
  | succ k ih =>
    rw [onesU_succ, bitB_test]
    unfold mF
    cases h : b.testBit k
    · simp only [Bool.false_eq_true, if_false, List.append_nil, Nat.xor_zero]
      exact ih (by omega)
    · simp only [if_true]
      rw [clL_snoc, ih (by omega), oneF_at k (by omega), wrap_shl, u64_xor_nat _ _ (lo_lt _) (lo_lt _), Nat.xor_mod_two_pow]
theorem clH_mF (a b k : Nat) (ha : U a) (hk : k ≤ 64) : clH a (onesU b k) = ((mF a b k / 2 ^ 64 : Nat) : Int) := by
  induction k with
  | zero => show (0 : Int) = ((0 / 2 ^ 64 : Nat) : Int); decide
  | succ k ih =>
    rw [onesU_succ, bitB_test]
    have hlt := mF_lt a b (k + 1) ha hk
    have hl2 := mF_lt a b k ha (by omega)
    unfold mF at hlt ⊢
    cases h : b.testBit k
    · simp only [Bool.false_eq_true, if_false, List.append_nil, Nat.xor_zero]
      exact ih (by omega)
    · simp only [if_true]
      have hl3 : a <<< k < 2 ^ 128 := by
        have h1 : a < 2 ^ 64 := ha
        rw [Nat.shiftLeft_eq]
        calc a * 2 ^ k < 2 ^ 64 * 2 ^ k := Nat.mul_lt_mul_of_pos_right h1 (Nat.two_pow_pos k)
          _ ≤ 2 ^ 64 * 2 ^ 64 := Nat.mul_le_mul_left _ (Nat.pow_le_pow_right (by decide) (by omega))
          _ = 2 ^ 128 := by decide
      rw [clH_snoc, ih (by omega), oneF_at k (by omega)]
      show bits .xor .u64 _ ((a : Int) / 2 ^ (64 - k)) = _
      rw [shr_hi a k (by omega), u64_xor_nat _ _ (hi_lt _ hl2) (hi_lt _ hl3), Nat.xor_div_two_pow]
def mL (a b : Nat) : Nat := mF a b 64 % 2 ^ 64
def mH (a b : Nat) : Nat := mF a b 64 / 2 ^ 64
theorem mL_lt (a b : Nat) : U (mL a b) := lo_lt _
theorem mH_lt (a b : Nat) (ha : U a) : U (mH a b) := hi_lt _ (mF_lt a b 64 ha (by decide))
theorem mL_comm (a b : Nat) (ha : U a) (hb : U b) : mL a b = mL b a := by unfold mL; rw [mF_comm a b ha hb]
theorem mH_comm (a b : Nat) (ha : U a) (hb : U b) : mH a b = mH b a := by unfold mH; rw [mF_comm a b ha hb]
theorem mL_xor (a c b : Nat) : mL (a ^^^ c) b = mL a b ^^^ mL c b := by unfold mL; rw [mF_xor, Nat.xor_mod_two_pow]
theorem mH_xor (a c b : Nat) : mH (a ^^^ c) b = mH a b ^^^ mH c b := by unfold mH; rw [mF_xor, Nat.xor_div_two_pow]
theorem byN_xor (a b k : Nat) : byN (a ^^^ b) k = byN a k ^^^ byN b k := by
  unfold byN
  rw [Nat.xor_div_two_pow, show (256 : Nat) = 2 ^ 8 from rfl, Nat.xor_mod_two_pow]
theorem blF_xor (l h m k i : Nat) : blF (l ^^^ m) (h ^^^ k) i = blF l h i ^^^ blF m k i := by
  unfold blF
  split <;> exact byN_xor _ _ _
theorem clmul_m (a b : Nat) (ha : U a) (hb : U b) (w : World) :
    Calls Try.prog 45 #[.int .u64 (a : Int), .int .u64 (b : Int)] w fun e W' => e = .returned (.tuple #[.int .u64 (mL a b : Nat), .int .u64 (mH a b : Nat)]) ∧ Below w.heap.size w W' := by
  have h := clmul_any a b ha hb w
  rw [clL_mF a b 64 (by decide), clH_mF a b 64 ha (by decide)] at h
  exact h
end Go.Proofs.Ytldicconopcipaa
