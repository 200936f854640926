/- What shifts, one behind the other, come to. -/
import Derived.Test.YtmfoeolllobidaaDoorSha
import Derived.Test.YtmfoeolllobidaaDoorMath
import Derived.Test.YtmfoeolllobidaaDoorMuls
import Derived.Test.YtmfoeolllobidaaDoorAdiv
namespace Go.Proofs.YtmfoeolllobidaaDoor
open Go.RowKit
theorem stp_lt (d : Nat) (wd : Int) (r : Nat) (hr : r < 2 ^ (8 * hN wd)) : (stp d wd r).1 < 2 ^ (8 * hN wd) := by
  have h0 : ∀ x, cN x wd < 2 ^ (8 * hN wd) := fun x => Nat.mod_lt _ (Nat.two_pow_pos _)
  unfold stp
  split
  · exact h0 _
  · exact Nat.lt_of_le_of_lt (Nat.div_le_self _ _) hr
  · exact h0 _
  · exact turn_lt _ _ _ (tN_lt _ _)
  · exact turn_lt _ _ _ (tN_lt _ _)
theorem it_lt (d : Nat) (wd : Int) (a : Nat) (ha : a < 2 ^ (8 * hN wd)) (k : Nat) : (it (stp d wd) a k).1 < 2 ^ (8 * hN wd) := by
  induction k with
  | zero => exact ha
  | succ k ih => exact stp_lt _ _ _ ih
theorem it_add (st : Nat → Nat × Bool) (a n m : Nat) : (it st a (n + m)).1 = (it st (it st a n).1 m).1 := by
  induction m with
  | zero => rfl
  | succ m ih => show (st (it st a (n + m)).1).1 = (st (it st (it st a n).1 m).1).1; rw [ih]
theorem it_addP (st : Nat → Nat × Bool) (a n m : Nat) (h : 0 < m) : it st a (n + m) = it st (it st a n).1 m := by
  obtain ⟨j, rfl⟩ : ∃ j, m = j + 1 := ⟨m - 1, by omega⟩
  show st (it st a (n + j)).1 = st (it st (it st a n).1 j).1
  rw [it_add]

theorem cN_id (x : Nat) (wd : Int) (h : x < 2 ^ (8 * hN wd)) : cN x wd = x := Nat.mod_eq_of_lt h
theorem shR_lt (d a k : Nat) (wd : Int) : shR d (cN a wd) k wd < 2 ^ (8 * hN wd) := it_lt _ _ _ (cN_lt _ _) _
theorem cN_shR (d a k : Nat) (wd : Int) : cN (shR d (cN a wd) k wd) wd = shR d (cN a wd) k wd := cN_id _ _ (shR_lt _ _ _ _)
theorem shR_U (d a k : Nat) (wd : Int) : U (shR d (cN a wd) k wd) := Nat.lt_of_lt_of_le (shR_lt _ _ _ _) (mN_lt wd)
theorem shR_add (d a n m : Nat) (wd : Int) : shR d (cN (shR d (cN a wd) n wd) wd) m wd = shR d (cN a wd) (n + m) wd := by
  rw [cN_shR]; exact (it_add _ _ _ _).symm
theorem flags_add (d a n m : Nat) (wd : Int) (hm : 0 < m) (c z s : Bool) :
    fC d (cN a wd) (n + m) wd c = fC d (cN (shR d (cN a wd) n wd) wd) m wd c ∧ fZ d (cN a wd) (n + m) wd z = fZ d (cN (shR d (cN a wd) n wd) wd) m wd z ∧ fS d (cN a wd) (n + m) wd s = fS d (cN (shR d (cN a wd) n wd) wd) m wd s := by
  rw [cN_shR]
  have h1 : m ≠ 0 := by omega
  have h2 : n + m ≠ 0 := by omega
  have e : it (stp d wd) (cN a wd) (n + m) = it (stp d wd) (shR d (cN a wd) n wd) m := it_addP _ _ _ _ hm
  have eC : ∀ a b R, flC d a wd R = flC d b wd R := fun a b R => by unfold flC; split <;> rfl
  refine ⟨?_, ?_, ?_⟩
  · simp only [fC, if_neg h1, if_neg h2]; rw [e]; exact eC _ _ _
  · simp only [fZ, if_neg h1, if_neg h2]; rw [e]
  · simp only [fS, if_neg h1, if_neg h2]; rw [e]
theorem shl_val (a n : Nat) (wd : Int) : shR 0 (cN a wd) n wd = cN (cN a wd * 2 ^ n) wd := by
  induction n with
  | zero => show cN a wd = _; unfold cN; simp
  | succ n ih =>
    show shlN (shR 0 (cN a wd) n wd) wd = _
    have hU := shR_U 0 a n wd
    rw [ih] at hU ⊢
    have hd : 2 ^ (8 * hN wd) ∣ 18446744073709551616 := by
      have hb := hN_bd wd
      have : (18446744073709551616 : Nat) = 2 ^ 64 := by decide
      rw [this]; exact Nat.pow_dvd_pow 2 (by omega)
    have e : (IntKind.u64.wrap ((cN (cN a wd * 2 ^ n) wd : Nat) * 2 : Int)).toNat = cN (cN a wd * 2 ^ n) wd * 2 % 18446744073709551616 := by
      rw [IntKind.wrap_u64]; generalize cN (cN a wd * 2 ^ n) wd = q; omega
    unfold shlN
    rw [e]
    show cN (cN a wd * 2 ^ n) wd * 2 % 18446744073709551616 % 2 ^ (8 * hN wd) = cN a wd * 2 ^ (n + 1) % 2 ^ (8 * hN wd)
    rw [Nat.mod_mod_of_dvd _ hd]
    show cN a wd * 2 ^ n % 2 ^ (8 * hN wd) * 2 % 2 ^ (8 * hN wd) = _
    rw [Nat.mod_mul_mod, Nat.pow_succ, Nat.mul_assoc]
theorem shr_val (a n : Nat) (wd : Int) : shR 1 (cN a wd) n wd = cN a wd / 2 ^ n := by
  induction n with
  | zero => show cN a wd = _; simp
  | succ n ih => show shR 1 (cN a wd) n wd / 2 = _; rw [ih, Nat.div_div_eq_div_mul, Nat.pow_succ]
theorem low_shl (a n : Nat) (wd : Int) (hn : n < 8 * hN wd) : lowM a (2 ^ n) wd = shR 0 (cN a wd) n wd := by
  rw [shl_val]
  have e : cN (2 ^ n) wd = 2 ^ n := cN_id _ _ (Nat.pow_lt_pow_right (by decide) hn)
  unfold lowM pM
  rw [e]
  rfl
theorem div_shr (a n : Nat) (wd : Int) (hn : n < 8 * hN wd) : nD 0 a wd / cN (2 ^ n) wd = shR 1 (cN a wd) n wd := by
  rw [shr_val]
  have e : cN (2 ^ n) wd = 2 ^ n := cN_id _ _ (Nat.pow_lt_pow_right (by decide) hn)
  have e0 : cN 0 wd = 0 := Nat.zero_mod _
  unfold nD
  rw [e, e0, Nat.zero_mul, Nat.zero_add]
theorem it_front (st : Nat → Nat × Bool) (a k : Nat) : (it st a (k + 1)).1 = (it st (st a).1 k).1 := by
  have := it_add st a 1 k
  rw [Nat.add_comm 1 k] at this
  exact this
theorem there_back (a n : Nat) (wd : Int) : shR 4 (cN (shR 3 (cN a wd) n wd) wd) n wd = cN a wd := by
  rw [cN_shR]
  induction n with
  | zero => rfl
  | succ n ih =>
    show (it (stp 4 wd) (shR 3 (cN a wd) (n + 1) wd) (n + 1)).1 = _
    rw [it_front]
    have h : (stp 4 wd (shR 3 (cN a wd) (n + 1) wd)).1 = shR 3 (cN a wd) n wd := by
      show turnN (turnN (shR 3 (cN a wd) n wd) (tN 1 wd) wd) (tN (-1) wd) wd = _
      rw [turn_back, cN_shR]
    rw [h]
    exact ih
end Go.Proofs.YtmfoeolllobidaaDoor
