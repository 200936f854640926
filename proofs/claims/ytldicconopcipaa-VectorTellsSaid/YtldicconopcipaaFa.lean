/- Bytes as polynomials: twice, products, inverses, boxes. -/
import Derived.Test.YtldicconopcipaaD
namespace Go.Proofs.Ytldicconopcipaa
open Go.RowKit
set_option linter.unusedVariables false
set_option linter.unusedSimpArgs false
/-- A byte times X. -/
def twN (x : Nat) : Nat := (2 * x % 256) ^^^ (x / 128 % 2 * 27)
theorem tw_fin : ∀ n : Fin 256, bits .xor .u8 ((n.val : Int) * 2 % 256) ((n.val : Int) / 128 * 27) = ((twN n.val : Nat) : Int) ∧ twN n.val < 256 := by decide +kernel
theorem twN_lt (x : Nat) (h : x < 256) : twN x < 256 := (tw_fin ⟨x, h⟩).2
theorem twice_any (x : Nat) (hx : x < 256) (w : World) : Calls Try.prog 50 #[.int .u8 x] w fun e w' => e = .returned (.int .u8 (twN x : Nat)) ∧ w = w' := by
  have H := Lib.hid (tw_fin ⟨x, hx⟩).1
  go_enter Try.func50, Try.ntmps50
  go_wp2
  go_ret
  exact ⟨congrArg (fun v => Ending.returned (.int .u8 v)) H.out, rfl⟩
def aN (a : Nat) : Nat → Nat
  | 0 => a
  | k + 1 => twN (aN a k)
theorem aN_lt (a : Nat) (h : a < 256) (k : Nat) : aN a k < 256 := by
  induction k with
  | zero => exact h
  | succ k ih => exact twN_lt _ ih
def sN (a b : Nat) : Nat → Nat
  | 0 => 0
  | k + 1 => sN a b k ^^^ (aN a k * (b / 2 ^ k % 2))
theorem sN_lt (a b : Nat) (h : a < 256) (k : Nat) : sN a b k < 256 := by
  induction k with
  | zero => exact Nat.zero_lt_succ _
  | succ k ih =>
    have h1 := aN_lt a h k
    have h2 : aN a k * (b / 2 ^ k % 2) < 256 := by
      have : b / 2 ^ k % 2 = 0 ∨ b / 2 ^ k % 2 = 1 := by omega
      rcases this with e | e <;> rw [e] <;> omega
    exact Nat.xor_lt_two_pow (n := 8) ih h2
/-- The product of two bytes. -/
def mulN (a b : Nat) : Nat := sN a b 8
theorem bit_fin : ∀ (b : Fin 256) (k : Fin 8), bits .and .u8 ((b.val : Int) / 2 ^ k.val) 1 = ((b.val / 2 ^ k.val % 2 : Nat) : Int) := by decide +kernel
theorem xor8 (a b : Nat) (ha : a < 256) (hb : b < 256) : bits .xor .u8 (a : Int) (b : Int) = ((a ^^^ b : Nat) : Int) := u8_xor_nat a b ha hb
set_option maxHeartbeats 4000000 in
theorem mul_any (a b : Nat) (ha : a < 256) (hb : b < 256) (w : World) : Calls Try.prog 59 #[.int .u8 a, .int .u8 b] w fun e w' => e = .returned (.int .u8 (mulN a b : Nat)) ∧ w = w' := by
  go_enter Try.func59, Try.ntmps59
  go_wp2 
  go_loop [0, 5, 7] (fun x s i => ∃ k : Nat, k ≤ 8 ∧ i = .int .i64 k ∧ x = .int .u8 (aN a k : Nat) ∧ s = .int .u8 (sN a b k : Nat)) (fun _ _ i => 8 - (intOf i).toNat)
  case atStart => exact ⟨0, by omega, rfl, rfl, rfl⟩
  case round =>
    obtain ⟨k, hk, rfl, rfl, rfl⟩ := hrel
    by_cases hlt : k < 8
    · have h1 := aN_lt a ha k
      have h2 := sN_lt a b ha k
      have HB := Lib.hid (bit_fin ⟨b, hb⟩ ⟨k, hlt⟩)
      have hT := fun W => twice_any (aN a k) h1 W
      have HS : Hid (sN a b (k + 1) = sN a b k ^^^ (aN a k * (b / 2 ^ k % 2))) := Lib.hid rfl
      have HA : Hid (aN a (k + 1) = twN (aN a k)) := Lib.hid rfl
      go_wp2_with (go_at_call 50; (with_reducible refine (hT _).mono ?_); rintro e w' ⟨rfl, rfl⟩)
      have hm : ((aN a k : Nat) : Int) * (((b / 2 ^ k % 2 : Nat)) : Int) % 256 = ((aN a k * (b / 2 ^ k % 2) : Nat) : Int) := by
        have h3 : aN a k * (b / 2 ^ k % 2) < 256 := by
          have : b / 2 ^ k % 2 = 0 ∨ b / 2 ^ k % 2 = 1 := by omega
          rcases this with e | e <;> rw [e] <;> omega
        rw [← Int.natCast_mul]; omega
      refine ⟨⟨k + 1, by omega, by simp, by rw [HA.out], ?_⟩, by simp [intOf]; omega⟩
      rw [HB.out, hm, xor8 _ _ h2 (by
          have : b / 2 ^ k % 2 = 0 ∨ b / 2 ^ k % 2 = 1 := by omega
          rcases this with e | e <;> rw [e] <;> omega), HS.out]
    · obtain rfl : k = 8 := by omega
      go_wp2
      go_ret
      exact ⟨rfl, rfl⟩
theorem mulN_lt (a b : Nat) (h : a < 256) : mulN a b < 256 := sN_lt a b h 8
def sqN (a : Nat) : Nat → Nat
  | 0 => a
  | k + 1 => mulN (sqN a k) (sqN a k)
theorem sqN_lt (a : Nat) (h : a < 256) (k : Nat) : sqN a k < 256 := by
  induction k with
  | zero => exact h
  | succ k ih => exact mulN_lt _ _ ih
def rvN (a : Nat) : Nat → Nat
  | 0 => 1
  | k + 1 => mulN (rvN a k) (sqN a (k + 1))
theorem rvN_lt (a : Nat) (k : Nat) : rvN a k < 256 := by
  induction k with
  | zero => exact Nat.succ_lt_succ (Nat.zero_lt_succ _)
  | succ k ih => exact mulN_lt _ _ ih
/-- A byte's inverse. -/
def invN (a : Nat) : Nat := rvN a 7
theorem inverse_any (a : Nat) (ha : a < 256) (w : World) : Calls Try.prog 57 #[.int .u8 a] w fun e w' => e = .returned (.int .u8 (invN a : Nat)) ∧ w = w' := by
  go_enter Try.func57, Try.ntmps57
  go_wp2 
  go_loop [0, 3, 4] (fun x r i => ∃ k : Nat, k ≤ 7 ∧ i = .int .i64 k ∧ x = .int .u8 (sqN a k : Nat) ∧ r = .int .u8 (rvN a k : Nat)) (fun _ _ i => 7 - (intOf i).toNat)
  case atStart => exact ⟨0, by omega, rfl, rfl, rfl⟩
  case round =>
    obtain ⟨k, hk, rfl, rfl, rfl⟩ := hrel
    by_cases hlt : k < 7
    · have h1 := sqN_lt a ha k
      have h2 := rvN_lt a k
      have h3 := sqN_lt a ha (k + 1)
      have hT1 := fun W => mul_any (sqN a k) (sqN a k) h1 h1 W
      have hT2 := fun W => mul_any (rvN a k) (sqN a (k + 1)) h2 h3 W
      rw [show mulN (sqN a k) (sqN a k) = sqN a (k + 1) from rfl] at hT1
      have HR : Hid (rvN a (k + 1) = mulN (rvN a k) (sqN a (k + 1))) := Lib.hid rfl
      rw [← HR.out] at hT2
      clear HR
      generalize hY : sqN a (k + 1) = y at *
      generalize hZ : rvN a (k + 1) = z at *
      have HY := Lib.hid hY
      have HZ := Lib.hid hZ
      clear hY hZ
      go_wp2_with (go_at_call 59; first | ((with_reducible refine (hT1 _).mono ?_); rintro e w' ⟨rfl, rfl⟩) | ((with_reducible refine (hT2 _).mono ?_); rintro e w' ⟨rfl, rfl⟩))
      exact ⟨⟨k + 1, by omega, by simp, by rw [HY.out], by rw [HZ.out]⟩, by simp [intOf]; omega⟩
    · obtain rfl : k = 7 := by omega
      go_wp2
      go_ret
      exact ⟨rfl, rfl⟩
theorem invN_lt (a : Nat) : invN a < 256 := rvN_lt a 7
/-- A byte turned left. -/
def tuN (x n : Nat) : Nat := (x * 2 ^ n % 256) ||| (x / 2 ^ (8 - n))
theorem tu_fin1 : ∀ x : Fin 256, bits .or .u8 ((x.val : Int) * 2 % 256) ((x.val : Int) / 128) = ((tuN x.val 1 : Nat) : Int) ∧ tuN x.val 1 < 256 := by decide +kernel
theorem turned_1 (x : Nat) (hx : x < 256) (w : World) : Calls Try.prog 58 #[.int .u8 x, .int .i64 1] w fun e w' => e = .returned (.int .u8 (tuN x 1 : Nat)) ∧ Below w.heap.size w w' := by
  have H := Lib.hid (tu_fin1 ⟨x, hx⟩).1
  go_enter Try.func58, Try.ntmps58
  go_wp2
  go_region
  all_goals
    go_wp2
    go_ret
    exact ⟨congrArg (fun v => Ending.returned (.int .u8 v)) H.out, (Below.refl _ _).drew⟩
theorem tu_fin2 : ∀ x : Fin 256, bits .or .u8 ((x.val : Int) * 4 % 256) ((x.val : Int) / 64) = ((tuN x.val 2 : Nat) : Int) ∧ tuN x.val 2 < 256 := by decide +kernel
theorem turned_2 (x : Nat) (hx : x < 256) (w : World) : Calls Try.prog 58 #[.int .u8 x, .int .i64 2] w fun e w' => e = .returned (.int .u8 (tuN x 2 : Nat)) ∧ Below w.heap.size w w' := by
  have H := Lib.hid (tu_fin2 ⟨x, hx⟩).1
  go_enter Try.func58, Try.ntmps58
  go_wp2
  go_region
  all_goals
    go_wp2
    go_ret
    exact ⟨congrArg (fun v => Ending.returned (.int .u8 v)) H.out, (Below.refl _ _).drew⟩
theorem tu_fin3 : ∀ x : Fin 256, bits .or .u8 ((x.val : Int) * 8 % 256) ((x.val : Int) / 32) = ((tuN x.val 3 : Nat) : Int) ∧ tuN x.val 3 < 256 := by decide +kernel
theorem turned_3 (x : Nat) (hx : x < 256) (w : World) : Calls Try.prog 58 #[.int .u8 x, .int .i64 3] w fun e w' => e = .returned (.int .u8 (tuN x 3 : Nat)) ∧ Below w.heap.size w w' := by
  have H := Lib.hid (tu_fin3 ⟨x, hx⟩).1
  go_enter Try.func58, Try.ntmps58
  go_wp2
  go_region
  all_goals
    go_wp2
    go_ret
    exact ⟨congrArg (fun v => Ending.returned (.int .u8 v)) H.out, (Below.refl _ _).drew⟩
theorem tu_fin4 : ∀ x : Fin 256, bits .or .u8 ((x.val : Int) * 16 % 256) ((x.val : Int) / 16) = ((tuN x.val 4 : Nat) : Int) ∧ tuN x.val 4 < 256 := by decide +kernel
theorem turned_4 (x : Nat) (hx : x < 256) (w : World) : Calls Try.prog 58 #[.int .u8 x, .int .i64 4] w fun e w' => e = .returned (.int .u8 (tuN x 4 : Nat)) ∧ Below w.heap.size w w' := by
  have H := Lib.hid (tu_fin4 ⟨x, hx⟩).1
  go_enter Try.func58, Try.ntmps58
  go_wp2
  go_region
  all_goals
    go_wp2
    go_ret
    exact ⟨congrArg (fun v => Ending.returned (.int .u8 v)) H.out, (Below.refl _ _).drew⟩
/-- A byte's box. -/
def boxN (x : Nat) : Nat := invN x ^^^ tuN (invN x) 1 ^^^ tuN (invN x) 2 ^^^ tuN (invN x) 3 ^^^ tuN (invN x) 4 ^^^ 99
def bxN (b : Nat) : Nat := b ^^^ tuN b 1 ^^^ tuN b 2 ^^^ tuN b 3 ^^^ tuN b 4 ^^^ 99
theorem bx_fin : ∀ x : Fin 256, bits .xor .u8 (bits .xor .u8 (bits .xor .u8 (bits .xor .u8 (bits .xor .u8 (x.val : Int) (tuN x.val 1 : Nat)) (tuN x.val 2 : Nat)) (tuN x.val 3 : Nat)) (tuN x.val 4 : Nat)) 99 = ((bxN x.val : Nat) : Int) ∧ bxN x.val < 256 := by decide +kernel
theorem boxN_lt (x : Nat) : boxN x < 256 := (bx_fin ⟨invN x, invN_lt x⟩).2
theorem boxed_any (x : Nat) (hx : x < 256) (w : World) : Calls Try.prog 55 #[.int .u8 x] w fun e w' => e = .returned (.int .u8 (boxN x : Nat)) ∧ Below w.heap.size w w' := by
  have hI := fun W => inverse_any x hx W
  have H := Lib.hid (bx_fin ⟨invN x, invN_lt x⟩).1
  have e : bxN (invN x) = boxN x := rfl
  dsimp only at H
  rw [e] at H
  clear e
  have hb := invN_lt x
  generalize boxN x = v at *
  generalize invN x = b at *
  have h1 := fun W => turned_1 b hb W
  have h2 := fun W => turned_2 b hb W
  have h3 := fun W => turned_3 b hb W
  have h4 := fun W => turned_4 b hb W
  have H1 := Lib.hid h1
  have H2 := Lib.hid h2
  have H3 := Lib.hid h3
  have H4 := Lib.hid h4
  clear h1 h2 h3 h4
  generalize tuN b 1 = y1 at *
  generalize tuN b 2 = y2 at *
  generalize tuN b 3 = y3 at *
  generalize tuN b 4 = y4 at *
  go_enter Try.func55, Try.ntmps55
  go_wp2_with fail
  go_at_call 57
  (with_reducible refine (hI _).mono ?_)
  rintro e w1 ⟨rfl, rfl⟩
  go_wp2_with fail
  go_at_call 58
  (with_reducible refine (H1.out _).mono ?_)
  rintro e w2 ⟨rfl, hb2⟩
  go_wp2_with fail
  go_at_call 58
  (with_reducible refine (H2.out _).mono ?_)
  rintro e w3 ⟨rfl, hb3⟩
  go_wp2_with fail
  go_at_call 58
  (with_reducible refine (H3.out _).mono ?_)
  rintro e w4 ⟨rfl, hb4⟩
  go_wp2_with fail
  go_at_call 58
  (with_reducible refine (H4.out _).mono ?_)
  rintro e w5 ⟨rfl, hb5⟩
  go_wp2
  go_ret
  exact ⟨congrArg (fun v => Ending.returned (.int .u8 v)) H.out, ((hb2.trans (hb3.mono hb2.size)).trans (hb4.mono (Nat.le_trans hb2.size hb3.size))).trans (hb5.mono (Nat.le_trans (Nat.le_trans hb2.size hb3.size) hb4.size))⟩
end Go.Proofs.Ytldicconopcipaa
