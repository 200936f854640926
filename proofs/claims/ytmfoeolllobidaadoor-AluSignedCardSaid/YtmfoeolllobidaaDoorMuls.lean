/- The contract of alu.Mul. -/
import Derived.Test.YtmfoeolllobidaaDoorMul
import Derived.BigQuiet
import Derived.Deep.QuietTactic
namespace Go.Proofs.YtmfoeolllobidaaDoor
open Go.RowKit
/-- The product of two words, cut ahead. -/
def pM (a b : Nat) (wd : Int) : Nat := cN a wd * cN b wd
def lowM (a b : Nat) (wd : Int) : Nat := pM a b wd % 2 ^ (8 * hN wd)
def highM (a b : Nat) (wd : Int) : Nat := pM a b wd / 2 ^ (8 * hN wd)
theorem pM_lt (a b : Nat) (wd : Int) : pM a b wd < 2 ^ (8 * hN wd) * 2 ^ (8 * hN wd) := by
  have h1 := cN_lt a wd
  have h2 := cN_lt b wd
  unfold pM
  exact Nat.mul_lt_mul'' h1 h2
theorem highM_lt (a b : Nat) (wd : Int) : highM a b wd < 2 ^ (8 * hN wd) := by
  unfold highM
  rw [Nat.div_lt_iff_lt_mul (Nat.two_pow_pos _)]
  exact pM_lt a b wd
theorem lowM_U (a b : Nat) (wd : Int) : U (lowM a b wd) := Nat.lt_of_lt_of_le (Nat.mod_lt _ (Nat.two_pow_pos _)) (mN_lt wd)
theorem highM_U (a b : Nat) (wd : Int) : U (highM a b wd) := Nat.lt_of_lt_of_le (highM_lt a b wd) (mN_lt wd)
theorem low_cut (a b : Nat) (wd : Int) : cN (pM a b wd % 18446744073709551616) wd = lowM a b wd := by
  have hb := hN_bd wd
  unfold lowM cN
  rw [show (18446744073709551616 : Nat) = 2 ^ (8 * hN wd) * 2 ^ (64 - 8 * hN wd) by rw [← Nat.pow_add, show 8 * hN wd + (64 - 8 * hN wd) = 64 by omega], Nat.mod_mul_right_mod]
theorem high_cut (a b : Nat) (wd : Int) : cN (bits BinOp.or IntKind.u64 (IntKind.u64.wrap (((pM a b wd / 18446744073709551616 : Nat) : Int) * 2 ^ (64 - 8 * hI wd).toNat)) (((pM a b wd % 18446744073709551616 : Nat) : Int) / 2 ^ (8 * hI wd).toNat)).toNat wd = highM a b wd := by
  have hb := hN_bd wd
  have hIN := hI_N wd
  have e1 : (64 - 8 * hI wd).toNat = 64 - 8 * hN wd := by omega
  have e2 : (8 * hI wd).toNat = 8 * hN wd := by omega
  have e64 : (18446744073709551616 : Nat) = 2 ^ (8 * hN wd) * 2 ^ (64 - 8 * hN wd) := by rw [← Nat.pow_add, show 8 * hN wd + (64 - 8 * hN wd) = 64 by omega]
  have hq : highM a b wd < 2 ^ (8 * hN wd) := highM_lt a b wd
  have hA : pM a b wd / 18446744073709551616 = highM a b wd / 2 ^ (64 - 8 * hN wd) := by rw [e64, ← Nat.div_div_eq_div_mul]; rfl
  have hB : pM a b wd % 18446744073709551616 / 2 ^ (8 * hN wd) = highM a b wd % 2 ^ (64 - 8 * hN wd) := by rw [e64, Nat.mod_mul_right_div_self]; rfl
  have hU := highM_U a b wd
  have hle := Nat.div_mul_le_self (highM a b wd) (2 ^ (64 - 8 * hN wd))
  have hm : highM a b wd % 2 ^ (64 - 8 * hN wd) ≤ highM a b wd := Nat.mod_le _ _
  rw [e1, e2, hA]
  have e3 : (((pM a b wd % 18446744073709551616 : Nat) : Int) / 2 ^ (8 * hN wd)) = ((highM a b wd % 2 ^ (64 - 8 * hN wd) : Nat) : Int) := by rw [← hB, Int.natCast_ediv]; simp
  have e4 : IntKind.u64.wrap (((highM a b wd / 2 ^ (64 - 8 * hN wd) : Nat) : Int) * 2 ^ (64 - 8 * hN wd)) = ((highM a b wd / 2 ^ (64 - 8 * hN wd) * 2 ^ (64 - 8 * hN wd) : Nat) : Int) := by
    rw [show (((highM a b wd / 2 ^ (64 - 8 * hN wd) : Nat) : Int) * 2 ^ (64 - 8 * hN wd)) = ((highM a b wd / 2 ^ (64 - 8 * hN wd) * 2 ^ (64 - 8 * hN wd) : Nat) : Int) by simp]
    exact wrapU _ (Nat.lt_of_le_of_lt hle hU)
  rw [e3, e4, u64_or_nat _ _ (Nat.lt_of_le_of_lt hle hU) (Nat.lt_of_le_of_lt hm hU), nat_join (64 - 8 * hN wd) _ _ (Nat.mul_mod_left _ _) (Nat.mod_lt _ (Nat.two_pow_pos _)), Nat.div_add_mod', Int.toNat_natCast]
  exact Nat.mod_eq_of_lt hq
theorem Slot5.drewN {W : World} {b : Nat} {v0 v1 v2 v3 v4 : Value} (h : Slot5 W b v0 v1 v2 v3 v4) (n : Nat) : Slot5 (W.drewN n) b v0 v1 v2 v3 v4 := h.keep (below_drewN (Below.refl _ _) n)
theorem cut_to (a c : Nat) (wd : Int) (ha : U a) (hc : cN a wd = c) (w : World) (hm : Mk w) : Calls Tryd.prog 36 #[.int .u64 (a : Int), .int .i64 wd] w fun e w' => e = .returned (.int .u64 (c : Int)) ∧ w = w' := by
  subst hc; exact cut_any a ha wd w hm
def hBM (a b : Nat) (wd : Int) : Bool := ((highM a b wd : Nat) : Int) != 0
set_option maxHeartbeats 1000000 in
theorem amul_any (a b : Nat) (ha : U a) (hb : U b) (wd : Int) (w : World) (hm : Mk w) :
    Calls Tryd.prog 24 #[.int .i64 wd, .int .u64 a, .int .u64 b] w fun e w' => e = .returned (.tuple #[.int .u64 (lowM a b wd : Nat), .int .u64 (highM a b wd : Nat), fl (hBM a b wd) (zB (lowM a b wd) wd) (sB (lowM a b wd) wd) (hBM a b wd) (pB (lowM a b wd))]) ∧ Below w.heap.size w w' := by
  have hbd := hI_bd wd
  have hr := lowM_U a b wd
  have ca := cN_U a ha wd
  have cb := cN_U b hb wd
  have H1 : ∀ W, Calls Tryd.prog 47 #[.int .u64 (cN a wd : Nat), .int .u64 (cN b wd : Nat)] W fun e w' => e = .returned (.tuple #[.int .u64 ((pM a b wd / 18446744073709551616 : Nat) : Int), .int .u64 ((pM a b wd % 18446744073709551616 : Nat) : Int)]) ∧ W = w' := fun W => mul64_any _ _ ca cb W
  have HU : U (pM a b wd % 18446744073709551616) := Nat.mod_lt _ (by decide)
  have HL := low_cut a b wd
  have HH := high_cut a b wd
  have hBd : hBM a b wd = (((highM a b wd : Nat) : Int) != 0) := rfl
  generalize hA : pM a b wd / 18446744073709551616 = PA at *
  generalize hB : pM a b wd % 18446744073709551616 = PB at *
  generalize lowM a b wd = lo at *
  generalize highM a b wd = hi at *
  generalize hBM a b wd = hq at *
  have K1 := Lib.hid H1
  have K2 := Lib.hid HL
  have K3 := Lib.hid HH
  clear H1 HL HH hA hB
  have hs := Lib.hid (Slot5.new w (.bool false) (.bool false) (.bool false) (.bool false) (.bool false) 24)
  have hb0 : Below w.heap.size w (w.alloc (Obj.cells #[Value.bool false, Value.bool false, Value.bool false, Value.bool false, Value.bool false] 24)) := (Below.refl _ _).alloc (Nat.le_refl _) _
  have hm2 := hm.alloc (Obj.cells #[Value.bool false, Value.bool false, Value.bool false, Value.bool false, Value.bool false] 24)
  go_enter Tryd.func24, Tryd.ntmps24
  go_wp2_with (first | (go_at_call 36; ((with_reducible refine (cut_any _ ha _ _ hm2).mono ?_); rintro e w' ⟨rfl, rfl⟩)) | (go_at_call 36; ((with_reducible refine (cut_any _ hb _ _ hm2).mono ?_); rintro e w' ⟨rfl, rfl⟩)) | (go_at_call 36; ((with_reducible refine (cut_to PB lo wd HU K2.out _ hm2).mono ?_); rintro e w' ⟨rfl, rfl⟩)) | (go_at_call 47; ((with_reducible refine (K1.out _).mono ?_); rintro e w' ⟨rfl, rfl⟩)) | (go_at_call 41; refine (aheld_any _ _).mono ?_; rintro e w' ⟨rfl, rfl⟩))
  go_quiet ((go_at_call 36; exact Calls.quiet_of_same (cutI_any _ (bits_UI _ _ _) _ _ (hm2.drewN _))))
  rw [K3.out]
  clear K1 K2 K3 HU ca cb
  go_wp2_with fail
  go_at_call 33
  refine (told_any lo hr _ _ _ _ (hm2.drewN _)).mono ?_
  rintro e w1 ⟨rfl, hb1⟩
  have hb2 : Below w.heap.size w w1 := (below_drewN hb0 _).trans (hb1.mono hb0.size)
  obtain ⟨c0, c1, c2, c3, c4, f0, f1, f2, f3, f4, -⟩ := (hs.out.drewN _).keep hb1
  clear hs hb0 hb1 hm2
  go_wp2_with fail
  refine bodyPost_ret (v := .tuple #[.int .u64 (lo : Nat), .int .u64 (hi : Nat), fl ((hi : Int) != 0) (zB lo wd) (sB lo wd) ((hi : Int) != 0) (pB lo)]) (by simp [results, Tryd.results24, go_sem, *]) rfl ⟨by rw [hBd], ?_⟩
  refine hb2.trans ?_
  go_grown
  all_goals exact hb2.size
end Go.Proofs.YtmfoeolllobidaaDoor
