/- The contract of alu.Div. -/
import Derived.Test.YtmfoeolllobidaaDoorDiv64
import Derived.Test.YtmfoeolllobidaaDoorMuls
namespace Go.Proofs.YtmfoeolllobidaaDoor
open Go.RowKit
theorem div64_any (hi lo y : Nat) (hlo : U lo) (hyU : U y) (hlt : hi < y) (w : World) :
    Calls Tryd.prog 48 #[.int .u64 hi, .int .u64 lo, .int .u64 y] w fun e w' => e = .returned (.tuple #[.int .u64 (((hi * 18446744073709551616 + lo) / y : Nat) : Int), .int .u64 (((hi * 18446744073709551616 + lo) % y : Nat) : Int)]) ∧ ∃ k, w' = w.drewN k := by
  by_cases h : hi = 0
  · subst h
    have := div64_lo lo y hlo (by omega) w
    rw [Nat.zero_mul, Nat.zero_add]; exact this
  · exact (div64_high hi lo y (by omega) hlo hyU hlt w).mono fun _ _ ⟨a, b⟩ => ⟨a, 0, b.symm⟩
/-- High and low as one word. -/
def nD (high low : Nat) (wd : Int) : Nat := cN high wd * 2 ^ (8 * hN wd) + cN low wd
theorem parts_D (high low d : Nat) (wd : Int) (hlt : cN high wd < cN d wd) :
    ∃ hi lo : Nat, ((cN high wd : Nat) : Int) / 2 ^ (64 - 8 * hI wd).toNat = (hi : Int) ∧ bits BinOp.or IntKind.u64 (IntKind.u64.wrap (((cN high wd : Nat) : Int) * 2 ^ (8 * hI wd).toNat)) ((cN low wd : Nat) : Int) = (lo : Int) ∧ U lo ∧ hi < cN d wd ∧ hi * 18446744073709551616 + lo = nD high low wd := by
  have hb := hN_bd wd
  have hIN := hI_N wd
  have e1 : (64 - 8 * hI wd).toNat = 64 - 8 * hN wd := by omega
  have e2 : (8 * hI wd).toNat = 8 * hN wd := by omega
  have e64 : (18446744073709551616 : Nat) = 2 ^ (64 - 8 * hN wd) * 2 ^ (8 * hN wd) := by rw [← Nat.pow_add, show 64 - 8 * hN wd + 8 * hN wd = 64 by omega]
  have hl := cN_lt low wd
  have hp := Nat.two_pow_pos (8 * hN wd)
  have hd : cN high wd * 2 ^ (8 * hN wd) / 18446744073709551616 = cN high wd / 2 ^ (64 - 8 * hN wd) := by rw [e64]; exact Nat.mul_div_mul_right _ _ hp
  have hs := Nat.div_add_mod' (cN high wd * 2 ^ (8 * hN wd)) 18446744073709551616
  rw [hd] at hs
  have hmod : cN high wd * 2 ^ (8 * hN wd) % 18446744073709551616 % 2 ^ (8 * hN wd) = 0 := by
    rw [e64, Nat.mod_mul_left_mod, Nat.mul_mod_left]
  have hM := mN_lt wd
  have hmlt : cN high wd * 2 ^ (8 * hN wd) % 18446744073709551616 < 18446744073709551616 := Nat.mod_lt _ (by decide)
  have hlU : cN low wd < 18446744073709551616 := Nat.lt_of_lt_of_le hl hM
  have hj := nat_join (8 * hN wd) (cN high wd * 2 ^ (8 * hN wd) % 18446744073709551616) (cN low wd) hmod hl
  have hor : cN high wd * 2 ^ (8 * hN wd) % 18446744073709551616 ||| cN low wd < 2 ^ 64 := Nat.or_lt_two_pow (by rw [show (2 : Nat) ^ 64 = 18446744073709551616 by decide]; exact hmlt) (by rw [show (2 : Nat) ^ 64 = 18446744073709551616 by decide]; exact hlU)
  refine ⟨cN high wd / 2 ^ (64 - 8 * hN wd), cN high wd * 2 ^ (8 * hN wd) % 18446744073709551616 + cN low wd, ?_, ?_, ?_, Nat.lt_of_le_of_lt (Nat.div_le_self _ _) hlt, ?_⟩
  · rw [e1, Int.natCast_ediv]; simp
  · rw [e2, show (((cN high wd : Nat) : Int) * 2 ^ (8 * hN wd)) = ((cN high wd * 2 ^ (8 * hN wd) : Nat) : Int) by simp, wrap_mod, u64_or_nat _ _ hmlt hlU, hj]
  · rw [← hj]; rw [show (2 : Nat) ^ 64 = 18446744073709551616 by decide] at hor; exact hor
  · unfold nD; rw [← Nat.add_assoc, hs]
theorem below_none (w : World) : Below w.heap.size w w := Below.refl _ _
set_option maxHeartbeats 1000000 in
theorem adiv_core (high low d : Nat) (wd : Int) (cH cL cD hi lo q r : Nat) (hbd : 1 ≤ hI wd ∧ hI wd ≤ 8)
    (h1 : ∀ W, Mk W → Calls Tryd.prog 36 #[.int .u64 high, .int .i64 wd] W fun e w' => e = .returned (.int .u64 cH) ∧ W = w')
    (h2 : ∀ W, Mk W → Calls Tryd.prog 36 #[.int .u64 low, .int .i64 wd] W fun e w' => e = .returned (.int .u64 cL) ∧ W = w')
    (h3 : ∀ W, Mk W → Calls Tryd.prog 36 #[.int .u64 d, .int .i64 wd] W fun e w' => e = .returned (.int .u64 cD) ∧ W = w')
    (hlt : ¬ ((cD : Int) ≤ (cH : Int))) (e1 : (cH : Int) / 2 ^ (64 - 8 * hI wd).toNat = hi) (e2 : bits BinOp.or IntKind.u64 (IntKind.u64.wrap ((cH : Int) * 2 ^ (8 * hI wd).toNat)) (cL : Int) = lo)
    (hdv : ∀ W, Calls Tryd.prog 48 #[.int .u64 hi, .int .u64 lo, .int .u64 cD] W fun e w' => e = .returned (.tuple #[.int .u64 q, .int .u64 r]) ∧ ∃ k, w' = W.drewN k)
    (w : World) (hm : Mk w) :
    Calls Tryd.prog 26 #[.int .i64 wd, .int .u64 high, .int .u64 low, .int .u64 d] w fun e w' => e = .returned (.tuple #[.int .u64 q, .int .u64 r, .bool true]) ∧ Below w.heap.size w w' := by
  have H1 := Lib.hid h1
  have H2 := Lib.hid h2
  have H3 := Lib.hid h3
  have HD := Lib.hid hdv
  clear h1 h2 h3 hdv
  go_enter Tryd.func26, Tryd.ntmps26
  go_wp2_with (first | (go_at_call 36; ((with_reducible refine (H1.out _ hm).mono ?_); rintro e w' ⟨rfl, rfl⟩)) | (go_at_call 36; ((with_reducible refine (H2.out _ hm).mono ?_); rintro e w' ⟨rfl, rfl⟩)) | (go_at_call 36; ((with_reducible refine (H3.out _ hm).mono ?_); rintro e w' ⟨rfl, rfl⟩)) | (go_at_call 41; refine (aheld_any _ _).mono ?_; rintro e w' ⟨rfl, rfl⟩))
  go_quiet ((go_at_call 48; exact Calls.quiet_of (HD.out _)))
  go_wp2
  go_ret3
  exact ⟨rfl, below_drewN (Below.refl _ _) _⟩
theorem adiv_any (high low d : Nat) (hh : U high) (hl : U low) (hd : U d) (wd : Int) (hlt : cN high wd < cN d wd) (w : World) (hm : Mk w) :
    Calls Tryd.prog 26 #[.int .i64 wd, .int .u64 high, .int .u64 low, .int .u64 d] w fun e w' => e = .returned (.tuple #[.int .u64 ((nD high low wd / cN d wd : Nat) : Int), .int .u64 ((nD high low wd % cN d wd : Nat) : Int), .bool true]) ∧ Below w.heap.size w w' := by
  obtain ⟨hi, lo, e1, e2, hloU, hhi, hn⟩ := parts_D high low d wd hlt
  rw [← hn]
  exact adiv_core high low d wd (cN high wd) (cN low wd) (cN d wd) hi lo _ _ (hI_bd wd) (fun W hW => cut_any high hh wd W hW) (fun W hW => cut_any low hl wd W hW) (fun W hW => cut_any d hd wd W hW) (by omega) e1 e2
    (fun W => div64_any hi lo _ hloU (cN_U d hd wd) hhi W) w hm
set_option maxHeartbeats 1000000 in
theorem adiv_none (high low d : Nat) (hh : U high) (hl : U low) (hd : U d) (wd : Int) (hlt : ¬ cN high wd < cN d wd) (w : World) (hm : Mk w) :
    Calls Tryd.prog 26 #[.int .i64 wd, .int .u64 high, .int .u64 low, .int .u64 d] w fun e w' => e = .returned (.tuple #[.int .u64 0, .int .u64 0, .bool false]) ∧ Below w.heap.size w w' := by
  have hge : ((cN d wd : Nat) : Int) ≤ ((cN high wd : Nat) : Int) := by omega
  clear hlt
  go_enter Tryd.func26, Tryd.ntmps26
  go_wp2_with (first | (go_at_call 36; ((with_reducible refine (cut_any _ hh _ _ hm).mono ?_); rintro e w' ⟨rfl, rfl⟩)) | (go_at_call 36; ((with_reducible refine (cut_any _ hl _ _ hm).mono ?_); rintro e w' ⟨rfl, rfl⟩)) | (go_at_call 36; ((with_reducible refine (cut_any _ hd _ _ hm).mono ?_); rintro e w' ⟨rfl, rfl⟩)))
  go_ret3
  exact ⟨rfl, Below.refl _ _⟩
end Go.Proofs.YtmfoeolllobidaaDoor
