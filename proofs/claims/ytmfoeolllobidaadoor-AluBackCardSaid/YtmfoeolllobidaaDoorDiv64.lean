/- The contract of math/bits.Div64. -/
import Derived.Test.YtmfoeolllobidaaDoorDivs
namespace Go.Proofs.YtmfoeolllobidaaDoor
open Go.RowKit
theorem guess_bound (V Y1 Y0 : Nat) (h1 : 2147483648 ≤ Y1) (h0 : Y0 < 4294967296) (hV : V < Y1 * 4294967296 + Y0) : V / Y1 ≤ 4294967297 := by
  apply Nat.le_of_lt_succ
  rw [Nat.div_lt_iff_lt_mul (by omega)]
  omega
theorem wrap_mod (n : Nat) : IntKind.u64.wrap (n : Int) = ((n % 18446744073709551616 : Nat) : Int) := by rw [IntKind.wrap_u64]; rfl
theorem sums_core (V T1 p r : Nat) (hr : V * 4294967296 + T1 - p = r) (hle : p ≤ V * 4294967296 + T1) (hm : r < 18446744073709551616) :
    IntKind.u64.wrap ((V : Int) * 4294967296) = ((V * 4294967296 % 18446744073709551616 : Nat) : Int) ∧
    IntKind.u64.wrap (((V * 4294967296 % 18446744073709551616 : Nat) : Int) + (T1 : Int)) = (((V * 4294967296 + T1) % 18446744073709551616 : Nat) : Int) ∧
    IntKind.u64.wrap (p : Int) = ((p % 18446744073709551616 : Nat) : Int) ∧
    IntKind.u64.wrap ((((V * 4294967296 + T1) % 18446744073709551616 : Nat) : Int) - ((p % 18446744073709551616 : Nat) : Int)) = (r : Int) := by
  simp only [IntKind.wrap_u64]
  refine ⟨by omega, by omega, by omega, by omega⟩
/-- A digit's sums, as the machine reckons them. -/
theorem digit_sums (V T1 Y : Nat) (hY : 0 < Y) (hYM : Y ≤ 18446744073709551615) :
    IntKind.u64.wrap ((V : Int) * 4294967296) = ((V * 4294967296 % 18446744073709551616 : Nat) : Int) ∧
    IntKind.u64.wrap (((V * 4294967296 % 18446744073709551616 : Nat) : Int) + (T1 : Int)) = (((V * 4294967296 + T1) % 18446744073709551616 : Nat) : Int) ∧
    IntKind.u64.wrap ((qD V T1 Y : Int) * (Y : Int)) = ((qD V T1 Y * Y % 18446744073709551616 : Nat) : Int) ∧
    IntKind.u64.wrap ((((V * 4294967296 + T1) % 18446744073709551616 : Nat) : Int) - ((qD V T1 Y * Y % 18446744073709551616 : Nat) : Int)) = (((V * 4294967296 + T1) % Y : Nat) : Int) := by
  have hm := Nat.mod_lt (V * 4294967296 + T1) hY
  have h := sums_core V T1 (qD V T1 Y * Y) ((V * 4294967296 + T1) % Y) (rest_digit V T1 Y) (Nat.div_mul_le_self _ _) (Nat.lt_of_lt_of_le hm (Nat.le_succ_of_le hYM))
  rw [Int.natCast_mul] at h
  exact h
theorem shift_sum (hi lo S K A : Nat) (hT : A * K + lo * S % K = lo * S) : (hi * K + lo) * S = (hi * S + A) * K + lo * S % K := by
  rw [Nat.add_mul, Nat.add_mul, Nat.mul_right_comm hi K S, Nat.add_assoc, hT]
theorem guess_ok (Y1 Y0 W d : Nat) (h1 : 2147483648 ≤ Y1) (h1' : Y1 < 4294967296) (h0 : Y0 < 4294967296) (hW : W < Y1 * 4294967296 + Y0) (hd : d < 4294967296) : W / Y1 ≤ 4294967297 ∧ W % Y1 < 4294967296 ∧ Guess W d Y1 Y0 (W / Y1) (W % Y1) :=
  ⟨guess_bound W _ _ h1 h0 hW, Nat.lt_trans (Nat.mod_lt _ (by omega)) h1', guess_first W d _ _ (by omega) hd⟩
theorem quo_sums (W Y1 : Nat) (h1 : 0 < Y1) (hW : W < 18446744073709551616) : IntKind.u64.wrap ((W : Int) / Y1) = ((W / Y1 : Nat) : Int) ∧ IntKind.u64.wrap (((W / Y1 : Nat) : Int) * Y1) = ((W / Y1 * Y1 : Nat) : Int) ∧ IntKind.u64.wrap ((W : Int) - ((W / Y1 * Y1 : Nat) : Int)) = ((W % Y1 : Nat) : Int) := by
  have h := Nat.div_add_mod' W Y1
  have hm := Nat.mod_lt W h1
  have hq : W / Y1 ≤ W := Nat.div_le_self _ _
  have e : ((W : Int) / Y1) = ((W / Y1 : Nat) : Int) := (Int.natCast_ediv _ _).symm
  rw [e, ← Int.natCast_mul]
  refine ⟨wrapU _ (by omega), wrapU _ (by omega), ?_⟩
  rw [show ((W : Int) - ((W / Y1 * Y1 : Nat) : Int)) = ((W % Y1 : Nat) : Int) by omega]
  exact wrapU _ (by omega)
theorem div_last (hi lo y s Y V T U1 : Nat) (hs63 : s ≤ 63) (hz : ∀ w, Calls Tryd.prog 74 #[.int .u64 y] w fun e w' => e = .returned (.int .i64 (s : Nat)) ∧ w = w') (c1 : ((y : Int) == 0) = false) (c2 : ¬ ((y : Int) ≤ (hi : Int))) (c3 : ((hi : Int) == 0) = false)
    (e1 : IntKind.u64.wrap ((y : Int) * 2 ^ s) = (Y : Int)) (e4 : bits BinOp.or IntKind.u64 (IntKind.u64.wrap ((hi : Int) * 2 ^ s)) ((lo : Int) / 2 ^ (64 - s)) = (V : Int)) (e5 : IntKind.u64.wrap ((lo : Int) * 2 ^ s) = (T : Int))
    (A : IntKind.u64.wrap ((V : Int) * 4294967296) = ((V * 4294967296 % 18446744073709551616 : Nat) : Int) ∧
      IntKind.u64.wrap (((V * 4294967296 % 18446744073709551616 : Nat) : Int) + ((T / 4294967296 : Nat) : Int)) = (((V * 4294967296 + T / 4294967296) % 18446744073709551616 : Nat) : Int) ∧
      IntKind.u64.wrap ((qD V (T / 4294967296) Y : Int) * (Y : Int)) = ((qD V (T / 4294967296) Y * Y % 18446744073709551616 : Nat) : Int) ∧
      IntKind.u64.wrap ((((V * 4294967296 + T / 4294967296) % 18446744073709551616 : Nat) : Int) - ((qD V (T / 4294967296) Y * Y % 18446744073709551616 : Nat) : Int)) = (U1 : Int))
    (hT : T < 18446744073709551616) (hV : V < Y) (hU1 : U1 < Y) (hY1 : 2147483648 ≤ Y / 4294967296) (hY1' : Y / 4294967296 < 4294967296) (hY0 : Y % 4294967296 < 4294967296) (eY : Y / 4294967296 * 4294967296 + Y % 4294967296 = Y) (w : World) :
    Calls Tryd.prog 48 #[.int .u64 hi, .int .u64 lo, .int .u64 y] w fun e w' => e = .returned (.tuple #[.int .u64 ((qD V (T / 4294967296) Y * 4294967296 + qD U1 (T % 4294967296) Y : Nat) : Int), .int .u64 (((U1 * 4294967296 + T % 4294967296) % Y / 2 ^ s : Nat) : Int)]) ∧ w = w' := by
  have hYM : Y ≤ 18446744073709551615 := by omega
  have hT1 : T / 4294967296 < 4294967296 := by omega
  have hT0 : T % 4294967296 < 4294967296 := by omega
  have B := digit_sums U1 (T % 4294967296) Y (by omega) hYM
  have hD1 := qD_lt V (T / 4294967296) Y hV hT1
  have hD0 := qD_lt U1 (T % 4294967296) Y hU1 hT0
  have q1 := quo_sums V (Y / 4294967296) (by omega) (by omega)
  have q2 := quo_sums U1 (Y / 4294967296) (by omega) (by omega)
  have i2 : (Y : Int) / 4294967296 = ((Y / 4294967296 : Nat) : Int) := by omega
  have i6 : (T : Int) / 4294967296 = ((T / 4294967296 : Nat) : Int) := by omega
  have z1 : IntKind.u64.wrap ((qD V (T / 4294967296) Y : Int) * 4294967296) = ((qD V (T / 4294967296) Y * 4294967296 : Nat) : Int) := by
    rw [show ((qD V (T / 4294967296) Y : Int) * 4294967296) = ((qD V (T / 4294967296) Y * 4294967296 : Nat) : Int) by omega]; exact wrapU _ (by omega)
  have z2 : IntKind.u64.wrap (((qD V (T / 4294967296) Y * 4294967296 : Nat) : Int) + (qD U1 (T % 4294967296) Y : Int)) = ((qD V (T / 4294967296) Y * 4294967296 + qD U1 (T % 4294967296) Y : Nat) : Int) := by
    rw [show (((qD V (T / 4294967296) Y * 4294967296 : Nat) : Int) + (qD U1 (T % 4294967296) Y : Int)) = ((qD V (T / 4294967296) Y * 4294967296 + qD U1 (T % 4294967296) Y : Nat) : Int) by omega]; exact wrapU _ (by omega)
  have z7 : (((U1 * 4294967296 + T % 4294967296) % Y : Nat) : Int) / 2 ^ s = (((U1 * 4294967296 + T % 4294967296) % Y / 2 ^ s : Nat) : Int) := by rw [Int.natCast_ediv]; simp
  have s1 := fun n m (h : n ≤ 4294967297 ∧ m < 4294967296 ∧ Guess V (T / 4294967296) (Y / 4294967296) (Y % 4294967296) n m) => round_ways V (T / 4294967296) (Y / 4294967296) (Y % 4294967296) n m hY1 hY1' hY0 hT1 (by rw [eY]; exact hV) h.1 h.2.1 h.2.2
  have s2 := fun n m (h : n ≤ 4294967297 ∧ m < 4294967296 ∧ Guess U1 (T % 4294967296) (Y / 4294967296) (Y % 4294967296) n m) => round_ways U1 (T % 4294967296) (Y / 4294967296) (Y % 4294967296) n m hY1 hY1' hY0 hT0 (by rw [eY]; exact hU1) h.1 h.2.1 h.2.2
  rw [eY] at s1 s2
  exact div_core hi lo y s Y (Y / 4294967296) (Y % 4294967296) V T (T / 4294967296) (T % 4294967296) _ _ _ (qD V (T / 4294967296) Y) _ _ _ U1 _ _ _ (qD U1 (T % 4294967296) Y) _ _ _ _ _ _ _ hs63 hz c1 c2 c3 (by omega)
    e1 i2 (and32 Y (by unfold U; omega)) e4 e5 i6 (and32 T hT) q1.1 q1.2.1 q1.2.2
    A.1 A.2.1 A.2.2.1 A.2.2.2 q2.1 q2.2.1 q2.2.2 z1 z2 B.1 B.2.1 B.2.2.1 B.2.2.2 z7
    (fun n m => n ≤ 4294967297 ∧ m < 4294967296 ∧ Guess V (T / 4294967296) (Y / 4294967296) (Y % 4294967296) n m) (fun n m => n ≤ 4294967297 ∧ m < 4294967296 ∧ Guess U1 (T % 4294967296) (Y / 4294967296) (Y % 4294967296) n m)
    (guess_ok _ _ V _ hY1 hY1' hY0 (by rw [eY]; exact hV) hT1) (guess_ok _ _ U1 _ hY1 hY1' hY0 (by rw [eY]; exact hU1) hT0)
    s1 s2 w
theorem div64_high (hi lo y : Nat) (hhi : 0 < hi) (hlo : U lo) (hyU : U y) (hlt : hi < y) (w : World) :
    Calls Tryd.prog 48 #[.int .u64 hi, .int .u64 lo, .int .u64 y] w fun e w' => e = .returned (.tuple #[.int .u64 (((hi * 18446744073709551616 + lo) / y : Nat) : Int), .int .u64 (((hi * 18446744073709551616 + lo) % y : Nat) : Int)]) ∧ w = w' := by
  obtain ⟨l, l1, l2, l3, hL⟩ := len64_any y hyU (by omega)
  have hl0 : 0 < l := by
    rcases Nat.eq_zero_or_pos l with h | h
    · subst h; simp at l1; omega
    · exact h
  obtain ⟨s, hs⟩ : ∃ s, s = 64 - l := ⟨_, rfl⟩
  have hls : l = 64 - s := by omega
  have e64 : (18446744073709551616 : Nat) = 2 ^ (64 - s) * 2 ^ s := by rw [← Nat.pow_add, show 64 - s + s = 64 by omega]
  rw [hls] at l1 l2 hL
  have hp := Nat.two_pow_pos s
  have hpl := Nat.two_pow_pos (64 - s)
  have hYlt : y * 2 ^ s < 18446744073709551616 := by rw [e64]; exact Nat.mul_lt_mul_of_pos_right l1 hp
  have hYge : 18446744073709551616 ≤ 2 * (y * 2 ^ s) := by
    rw [e64, ← Nat.mul_assoc]; exact Nat.mul_le_mul_right _ l2
  have hTd : lo * 2 ^ s / 18446744073709551616 = lo / 2 ^ (64 - s) := by rw [e64]; exact Nat.mul_div_mul_right _ _ hp
  have hTs := Nat.div_add_mod' (lo * 2 ^ s) 18446744073709551616
  rw [hTd] at hTs
  have hN : (hi * 18446744073709551616 + lo) * 2 ^ s = (hi * 2 ^ s + lo / 2 ^ (64 - s)) * 18446744073709551616 + lo * 2 ^ s % 18446744073709551616 := shift_sum _ _ _ _ _ hTs
  have hNlt : (hi * 18446744073709551616 + lo) * 2 ^ s < y * 2 ^ s * 18446744073709551616 := by
    rw [Nat.mul_right_comm]
    apply Nat.mul_lt_mul_of_pos_right _ hp
    have : (hi + 1) * 18446744073709551616 ≤ y * 18446744073709551616 := Nat.mul_le_mul_right _ hlt
    unfold U at hlo; omega
  have hV : hi * 2 ^ s + lo / 2 ^ (64 - s) < y * 2 ^ s := by omega
  have hh : hi * 2 ^ s < 18446744073709551616 := by omega
  have hl2 : lo / 2 ^ (64 - s) < 18446744073709551616 := by omega
  have hjoin : lo / 2 ^ (64 - s) < 2 ^ s := by
    rw [Nat.div_lt_iff_lt_mul hpl, Nat.mul_comm, ← e64]; exact hlo
  have hq := two_digits (hi * 2 ^ s + lo / 2 ^ (64 - s)) (lo * 2 ^ s % 18446744073709551616 / 4294967296) (lo * 2 ^ s % 18446744073709551616 % 4294967296) (y * 2 ^ s) (by omega)
  have hTT : (hi * 2 ^ s + lo / 2 ^ (64 - s)) * 18446744073709551616 + lo * 2 ^ s % 18446744073709551616 / 4294967296 * 4294967296 + lo * 2 ^ s % 18446744073709551616 % 4294967296 = (hi * 18446744073709551616 + lo) * 2 ^ s := by rw [Nat.add_assoc, Nat.div_add_mod', ← hN]
  rw [hTT, shift_div] at hq
  have e1 : IntKind.u64.wrap ((y : Int) * 2 ^ s) = ((y * 2 ^ s : Nat) : Int) := by
    rw [show ((y : Int) * 2 ^ s) = ((y * 2 ^ s : Nat) : Int) by simp]; exact wrapU _ hYlt
  have e4 : bits BinOp.or IntKind.u64 (IntKind.u64.wrap ((hi : Int) * 2 ^ s)) ((lo : Int) / 2 ^ (64 - s)) = ((hi * 2 ^ s + lo / 2 ^ (64 - s) : Nat) : Int) := by
    rw [show ((hi : Int) * 2 ^ s) = ((hi * 2 ^ s : Nat) : Int) by simp, show ((lo : Int) / 2 ^ (64 - s)) = ((lo / 2 ^ (64 - s) : Nat) : Int) by rw [Int.natCast_ediv]; simp, wrapU _ hh, u64_or_nat _ _ hh hl2, nat_join s _ _ (Nat.mul_mod_left _ _) hjoin]
  have e5 : IntKind.u64.wrap ((lo : Int) * 2 ^ s) = ((lo * 2 ^ s % 18446744073709551616 : Nat) : Int) := by
    rw [show ((lo : Int) * 2 ^ s) = ((lo * 2 ^ s : Nat) : Int) by simp]; exact wrap_mod _
  have hrem := shift_mod (hi * 18446744073709551616 + lo) y s
  rw [← hq.2] at hrem
  rw [← hq.1, ← hrem]
  have hz := fun w => zeros_any y s (by omega) hL w
  have c1 : ((y : Int) == 0) = false := by simp; omega
  have c2 : ¬ ((y : Int) ≤ (hi : Int)) := by omega
  have c3 : ((hi : Int) == 0) = false := by simp; omega
  have hs63 : s ≤ 63 := by omega
  clear hh hl2 hq hrem hTT hN hNlt hTs hTd hjoin l1 l2 l3 hL hl0 hls hlo hyU hlt hhi
  generalize y * 2 ^ s = Y at *
  generalize hi * 2 ^ s + lo / 2 ^ (64 - s) = V at *
  have hT : lo * 2 ^ s % 18446744073709551616 < 18446744073709551616 := Nat.mod_lt _ (by decide)
  generalize lo * 2 ^ s % 18446744073709551616 = T at *
  have hY1 : 2147483648 ≤ Y / 4294967296 := by omega
  have hY1' : Y / 4294967296 < 4294967296 := by omega
  have hY0 : Y % 4294967296 < 4294967296 := by omega
  have eY : Y / 4294967296 * 4294967296 + Y % 4294967296 = Y := by omega
  have A := digit_sums V (T / 4294967296) Y (by omega) (by omega)
  have hU1 : (V * 4294967296 + T / 4294967296) % Y < Y := Nat.mod_lt _ (by omega)
  obtain ⟨U1, hU⟩ : ∃ U1, (V * 4294967296 + T / 4294967296) % Y = U1 := ⟨_, rfl⟩
  rw [hU] at A hU1 ⊢
  exact div_last hi lo y s Y V T U1 hs63 hz c1 c2 c3 e1 e4 e5 A hT hV hU1 hY1 hY1' hY0 eY w
end Go.Proofs.YtmfoeolllobidaaDoor
