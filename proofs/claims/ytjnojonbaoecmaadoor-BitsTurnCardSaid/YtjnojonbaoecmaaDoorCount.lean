/- Plain numbers: how many bits are ones, turned or not. -/
import Derived.Test.YtjnojonbaoecmaaDoorMath
namespace Go.Proofs.YtjnojonbaoecmaaDoor
open Go.RowKit
/-- How many of the first n are true. -/
def bS (f : Nat → Bool) : Nat → Nat
  | 0 => 0
  | n + 1 => bS f n + (f n).toNat
theorem bS_le (f : Nat → Bool) (n : Nat) : bS f n ≤ n := by
  induction n with
  | zero => exact Nat.le_refl _
  | succ n ih => have := Bool.toNat_le (f n); unfold bS; omega
theorem bS_add (f : Nat → Bool) (a b : Nat) : bS f (a + b) = bS f a + bS (fun i => f (i + a)) b := by
  induction b with
  | zero => rfl
  | succ b ih =>
    rw [← Nat.add_assoc]
    show bS f (a + b) + (f (a + b)).toNat = bS f a + (bS (fun i => f (i + a)) b + (f (b + a)).toNat)
    rw [ih, Nat.add_comm b a]; omega
theorem bS_congr {f g : Nat → Bool} {n : Nat} (h : ∀ i, i < n → f i = g i) : bS f n = bS g n := by
  induction n with
  | zero => rfl
  | succ n ih => unfold bS; rw [ih fun i hi => h i (by omega), h n (by omega)]
theorem bS_none {f : Nat → Bool} {n : Nat} (h : ∀ i, i < n → f i = false) : bS f n = 0 := by
  induction n with
  | zero => rfl
  | succ n ih => unfold bS; rw [ih fun i hi => h i (by omega), h n (by omega)]; rfl
theorem bS_turn (f : Nat → Bool) (L m : Nat) (hm : m ≤ L) : bS (fun i => f ((i + m) % L)) L = bS f L := by
  have e1 := bS_add (fun i => f ((i + m) % L)) (L - m) m
  rw [show L - m + m = L by omega] at e1
  have e2 := bS_add f m (L - m)
  rw [show m + (L - m) = L by omega] at e2
  rw [e1, e2]
  have h1 : bS (fun i => f ((i + m) % L)) (L - m) = bS (fun i => f (i + m)) (L - m) := bS_congr fun i hi => by rw [Nat.mod_eq_of_lt (by omega)]
  have h2 : bS (fun i => f ((i + (L - m) + m) % L)) m = bS f m := bS_congr fun i hi => by rw [show i + (L - m) + m = i + L by omega, Nat.add_mod_right, Nat.mod_eq_of_lt (by omega)]
  omega
theorem turn_count (a k : Nat) (wd : Int) (hk : k < 8 * hN wd) : bS (turnN a k wd).testBit 64 = bS (cN a wd).testBit 64 := by
  have hb := hN_bd wd
  have hL : 8 * hN wd + (64 - 8 * hN wd) = 64 := by omega
  have e1 := bS_add (turnN a k wd).testBit (8 * hN wd) (64 - 8 * hN wd)
  have e2 := bS_add (cN a wd).testBit (8 * hN wd) (64 - 8 * hN wd)
  rw [hL] at e1 e2
  have z1 : bS (fun i => (turnN a k wd).testBit (i + 8 * hN wd)) (64 - 8 * hN wd) = 0 := bS_none fun i _ => by
    have hni : ¬ i + 8 * hN wd < 8 * hN wd := by omega
    rw [turn_bit a k wd hk]; simp only [hni, decide_false, Bool.false_and]
  have z2 : bS (fun i => (cN a wd).testBit (i + 8 * hN wd)) (64 - 8 * hN wd) = 0 := bS_none fun i _ => by
    have hni : ¬ i + 8 * hN wd < 8 * hN wd := by omega
    unfold cN; rw [Nat.testBit_mod_two_pow]; simp only [hni, decide_false, Bool.false_and]
  have h1 : bS (turnN a k wd).testBit (8 * hN wd) = bS (fun i => a.testBit ((i + (8 * hN wd - k)) % (8 * hN wd))) (8 * hN wd) := bS_congr fun i hi => by
    rw [turn_bit a k wd hk]; simp [hi]
  have h2 : bS (cN a wd).testBit (8 * hN wd) = bS a.testBit (8 * hN wd) := bS_congr fun i hi => by
    unfold cN; rw [Nat.testBit_mod_two_pow]; simp [hi]
  rw [e1, e2, z1, z2, h1, h2, bS_turn a.testBit (8 * hN wd) (8 * hN wd - k) (by omega)]
theorem bit_val (x i : Nat) (hx : U x) : bits BinOp.and IntKind.u64 ((x : Int) / 2 ^ i) 1 = (((x.testBit i).toNat : Nat) : Int) := by
  have e2 : ((x : Int) / 2 ^ i) = ((x / 2 ^ i : Nat) : Int) := by rw [Int.natCast_ediv]; simp
  have hlt : x / 2 ^ i < 18446744073709551616 := Nat.lt_of_le_of_lt (Nat.div_le_self _ _) hx
  rw [e2, show ((1 : Int)) = ((1 : Nat) : Int) from rfl, u64_and_nat _ _ hlt (by decide), Nat.and_one_is_mod, Nat.toNat_testBit]
end Go.Proofs.YtjnojonbaoecmaaDoor
