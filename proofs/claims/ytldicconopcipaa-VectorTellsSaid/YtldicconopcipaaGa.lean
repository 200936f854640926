/- The reference's products of bytes, inverses, boxes. -/
import Derived.Test.YtldicconopcipaaGm
import Derived.IntWalk
namespace Go.Proofs.Ytldicconopcipaa
open Go.RowKit
set_option linter.unusedVariables false
set_option linter.unusedSimpArgs false
theorem ofInt_i64 (a : Nat) (ha : a < 18446744073709551616) : (BitVec.ofInt 64 (a : Int)).toNat = a := by
  rw [BitVec.ofInt_natCast, BitVec.toNat_ofNat]; exact Nat.mod_eq_of_lt (by omega)
theorem i64_xor_nat (a b : Nat) (ha : a < 512) (hb : b < 512) : bits .xor .i64 (a : Int) (b : Int) = ((a ^^^ b : Nat) : Int) := by
  have hx : a ^^^ b < 2 ^ 9 := Nat.xor_lt_two_pow (by omega) (by omega)
  show IntKind.i64.wrap ((BitVec.ofInt 64 (a : Int) ^^^ BitVec.ofInt 64 (b : Int)).toNat : Int) = _
  rw [BitVec.toNat_xor, ofInt_i64 a (by omega), ofInt_i64 b (by omega)]
  exact IntWalk.i64_in _ (by omega)
theorem twice_ge : ∀ n : Fin 256, 256 ≤ 2 * n.val → (2 * n.val) ^^^ 283 = twN n.val := by decide +kernel
theorem twice_lt : ∀ n : Fin 256, 2 * n.val < 256 → 2 * n.val = twN n.val := by decide +kernel
set_option maxRecDepth 100000 in
set_option maxHeartbeats 4000000 in
theorem rmul_any (a b : Nat) (ha : a < 256) (hb : b < 256) (w : World) : Calls Try.prog 47 #[.int .u8 a, .int .u8 b] w fun e w' => e = .returned (.int .u8 (mulN a b : Nat)) ∧ w = w' := by
  go_enter Try.func47, Try.ntmps47
  go_wp2_with fail
  go_loop [5, 6, 7] (fun s x i => ∃ k : Nat, k ≤ 8 ∧ i = .int .i64 k ∧ x = .int .i64 (aN a k : Nat) ∧ s = .int .i64 (sN a b k : Nat)) (fun _ _ i => 8 - (intOf i).toNat)
  case atStart => exact ⟨0, by omega, rfl, rfl, rfl⟩
  case round =>
    obtain ⟨k, hk, rfl, rfl, rfl⟩ := hrel
    by_cases hlt : k < 8
    · have h1 := aN_lt a ha k
      have h2 := sN_lt a b ha k
      have HB := Lib.hid (bit_fin ⟨b, hb⟩ ⟨k, hlt⟩)
      dsimp only at HB
      have HS : Hid (sN a b (k + 1) = sN a b k ^^^ (aN a k * (b / 2 ^ k % 2))) := Lib.hid rfl
      have HA : Hid (aN a (k + 1) = twN (aN a k)) := Lib.hid rfl
      have HG := Lib.hid (twice_ge ⟨aN a k, h1⟩)
      have HL := Lib.hid (twice_lt ⟨aN a k, h1⟩)
      dsimp only at HG HL
      have HX := Lib.hid (i64_xor_nat (sN a b k) (aN a k) (by omega) (by omega))
      have HY := Lib.hid (i64_xor_nat (2 * aN a k) 283 (by omega) (by omega))
      generalize aN a k = x at *
      generalize sN a b k = s at *
      by_cases hq : b / 2 ^ k % 2 = 1
      · have hb1 : (bits .and .u8 ((b : Int) / 2 ^ k) 1 == 1) = true := by rw [HB.out, hq]; rfl
        clear HB
        rw [hq, Nat.mul_one] at HS
        by_cases hg : 256 ≤ 2 * x
        · have hg' : (x : Int) * 2 ≥ 256 := by omega
          go_wp2_with fail
          refine ⟨⟨k + 1, by omega, by simp, ?_, ?_⟩, by simp [intOf]; omega⟩
          · rw [HA.out, ← HG.out hg]; exact congrArg (Value.int .i64) ((congrArg (fun z => bits .xor .i64 z 283) (show (x : Int) * 2 = ((2 * x : Nat) : Int) by omega)).trans HY.out)
          · rw [HS.out, ← HX.out]
        · have hg' : (x : Int) * 2 < 256 := by omega
          go_wp2_with fail
          refine ⟨⟨k + 1, by omega, by simp, ?_, ?_⟩, by simp [intOf]; omega⟩
          · rw [HA.out, ← HL.out (by omega)]; congr 1; omega
          · rw [HS.out, ← HX.out]
      · have hq0 : b / 2 ^ k % 2 = 0 := by omega
        have hb1 : (bits .and .u8 ((b : Int) / 2 ^ k) 1 == 1) = false := by rw [HB.out, hq0]; rfl
        clear HB
        rw [hq0, Nat.mul_zero, Nat.xor_zero] at HS
        by_cases hg : 256 ≤ 2 * x
        · have hg' : (x : Int) * 2 ≥ 256 := by omega
          go_wp2_with fail
          refine ⟨⟨k + 1, by omega, by simp, ?_, ?_⟩, by simp [intOf]; omega⟩
          · rw [HA.out, ← HG.out hg]; exact congrArg (Value.int .i64) ((congrArg (fun z => bits .xor .i64 z 283) (show (x : Int) * 2 = ((2 * x : Nat) : Int) by omega)).trans HY.out)
          · rw [HS.out]
        · have hg' : (x : Int) * 2 < 256 := by omega
          go_wp2_with fail
          refine ⟨⟨k + 1, by omega, by simp, ?_, ?_⟩, by simp [intOf]; omega⟩
          · rw [HA.out, ← HL.out (by omega)]; congr 1; omega
          · rw [HS.out]
    · obtain rfl : k = 8 := by omega
      have h2 := sN_lt a b ha 8
      have hm : ((sN a b 8 : Nat) : Int) % 256 = ((mulN a b : Nat) : Int) := by show _ = ((sN a b 8 : Nat) : Int); omega
      go_wp2
      go_ret
      exact ⟨rfl, rfl⟩
/-- The error of an inverse. -/
def erN (a : Nat) : Int := if a = 0 then 20 else 0
set_option maxRecDepth 100000 in
theorem rinv_any (a : Nat) (ha : a < 256) (w : World) : Calls Try.prog 52 #[.int .u8 a] w fun e w' => e = .returned (.tuple #[.int .u8 (invN a : Nat), .int .i64 (erN a)]) ∧ w = w' := by
  have H1 := Lib.hid (inv_fin ⟨a, ha⟩)
  have H2 := Lib.hid (inv_first ⟨a, ha⟩)
  have hl := invN_lt a
  go_enter Try.func52, Try.ntmps52
  go_wp2_with fail
  go_loop [4] (fun i => ∃ k : Nat, 1 ≤ k ∧ k ≤ 256 ∧ i = .int .i64 k ∧ (a ≠ 0 → k ≤ invN a)) (fun i => 256 - (intOf i).toNat)
  case atStart => exact ⟨1, by omega, by omega, rfl, fun h => (H1.out h).2⟩
  case round =>
    obtain ⟨k, hk1, hk, rfl, hle⟩ := hrel
    by_cases hlt : k < 256
    · have hT := fun W => rmul_any a k ha hlt W
      by_cases ha0 : a = 0
      · have hne : ((mulN a k : Nat) : Int) ≠ 1 := by have := inv_zero ⟨k, hlt⟩; subst ha0; dsimp only at this; omega
        have hne' : (((mulN a k : Nat) : Int) == 1) = false := by simpa using hne
        clear hne
        have HA0 := Lib.hid ha0
        clear ha0
        generalize mulN a k = v at *
        go_wp2_with (go_at_call 47; (with_reducible refine (hT _).mono ?_); rintro e w' ⟨rfl, rfl⟩)
        exact ⟨⟨k + 1, by omega, by omega, by simp, fun h => absurd HA0.out h⟩, by simp [intOf]; omega⟩
      · by_cases hki : k = invN a
        · have hv : (((mulN a k : Nat) : Int) == 1) = true := by rw [hki, (H1.out ha0).1]; rfl
          have HK := Lib.hid hki
          clear hki hle
          generalize mulN a k = v at *
          go_wp2_with (go_at_call 47; (with_reducible refine (hT _).mono ?_); rintro e w' ⟨rfl, rfl⟩)
          go_ret2
          exact ⟨by rw [← HK.out]; unfold erN; rw [if_neg ha0]; rfl, rfl⟩
        · have hlt2 : k < invN a := by have := hle ha0; omega
          have hne := H2.out ⟨k, hlt⟩ hlt2
          dsimp only at hne
          have hne' : (((mulN a k : Nat) : Int) == 1) = false := by simp; omega
          clear hne
          generalize mulN a k = v at *
          go_wp2_with (go_at_call 47; (with_reducible refine (hT _).mono ?_); rintro e w' ⟨rfl, rfl⟩)
          exact ⟨⟨k + 1, by omega, by omega, by simp, fun _ => by omega⟩, by simp [intOf]; omega⟩
    · obtain rfl : k = 256 := by omega
      have ha0 : a = 0 := by
        by_cases h : a = 0
        · exact h
        · have := hle h; omega
      subst ha0
      go_wp2
      go_ret2
      exact ⟨by rw [inv_none]; rfl, rfl⟩
theorem rturn_1 (x : Nat) (hx : x < 256) (w : World) : Calls Try.prog 53 #[.int .u8 x, .int .u64 1] w fun e w' => e = .returned (.int .u8 (tuN x 1 : Nat)) ∧ w = w' := by
  have H := Lib.hid (tu_fin1 ⟨x, hx⟩).1
  go_enter Try.func53, Try.ntmps53
  go_wp2
  go_ret
  exact ⟨congrArg (fun v => Ending.returned (.int .u8 v)) H.out, rfl⟩
theorem rturn_2 (x : Nat) (hx : x < 256) (w : World) : Calls Try.prog 53 #[.int .u8 x, .int .u64 2] w fun e w' => e = .returned (.int .u8 (tuN x 2 : Nat)) ∧ w = w' := by
  have H := Lib.hid (tu_fin2 ⟨x, hx⟩).1
  go_enter Try.func53, Try.ntmps53
  go_wp2
  go_ret
  exact ⟨congrArg (fun v => Ending.returned (.int .u8 v)) H.out, rfl⟩
theorem rturn_3 (x : Nat) (hx : x < 256) (w : World) : Calls Try.prog 53 #[.int .u8 x, .int .u64 3] w fun e w' => e = .returned (.int .u8 (tuN x 3 : Nat)) ∧ w = w' := by
  have H := Lib.hid (tu_fin3 ⟨x, hx⟩).1
  go_enter Try.func53, Try.ntmps53
  go_wp2
  go_ret
  exact ⟨congrArg (fun v => Ending.returned (.int .u8 v)) H.out, rfl⟩
theorem rturn_4 (x : Nat) (hx : x < 256) (w : World) : Calls Try.prog 53 #[.int .u8 x, .int .u64 4] w fun e w' => e = .returned (.int .u8 (tuN x 4 : Nat)) ∧ w = w' := by
  have H := Lib.hid (tu_fin4 ⟨x, hx⟩).1
  go_enter Try.func53, Try.ntmps53
  go_wp2
  go_ret
  exact ⟨congrArg (fun v => Ending.returned (.int .u8 v)) H.out, rfl⟩
theorem rbox_any (x : Nat) (hx : x < 256) (w : World) : Calls Try.prog 46 #[.int .u8 x] w fun e w' => e = .returned (.int .u8 (boxN x : Nat)) ∧ w = w' := by
  have hI := fun W => rinv_any x hx W
  have H := Lib.hid (bx_fin ⟨invN x, invN_lt x⟩).1
  have e : bxN (invN x) = boxN x := rfl
  dsimp only at H
  rw [e] at H
  clear e
  have hb := invN_lt x
  generalize boxN x = v at *
  generalize invN x = b at *
  have H1 := Lib.hid (fun W => rturn_1 b hb W)
  have H2 := Lib.hid (fun W => rturn_2 b hb W)
  have H3 := Lib.hid (fun W => rturn_3 b hb W)
  have H4 := Lib.hid (fun W => rturn_4 b hb W)
  generalize tuN b 1 = y1 at *
  generalize tuN b 2 = y2 at *
  generalize tuN b 3 = y3 at *
  generalize tuN b 4 = y4 at *
  go_enter Try.func46, Try.ntmps46
  go_wp2_with fail
  go_at_call 52
  (with_reducible refine (hI _).mono ?_)
  rintro e w1 ⟨rfl, rfl⟩
  go_wp2_with fail
  go_at_call 53
  (with_reducible refine (H1.out _).mono ?_)
  rintro e w2 ⟨rfl, rfl⟩
  go_wp2_with fail
  go_at_call 53
  (with_reducible refine (H2.out _).mono ?_)
  rintro e w3 ⟨rfl, rfl⟩
  go_wp2_with fail
  go_at_call 53
  (with_reducible refine (H3.out _).mono ?_)
  rintro e w4 ⟨rfl, rfl⟩
  go_wp2_with fail
  go_at_call 53
  (with_reducible refine (H4.out _).mono ?_)
  rintro e w5 ⟨rfl, rfl⟩
  go_wp2
  go_ret
  exact ⟨congrArg (fun v => Ending.returned (.int .u8 v)) H.out, rfl⟩
end Go.Proofs.Ytldicconopcipaa
