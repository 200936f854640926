/- Quotients and products with signs: the program's are the document's own. -/
import Derived.Test.YtmfoeolllobidaaDoorRdm
import Derived.Test.YtmfoeolllobidaaDoorRd
import Derived.Test.YtmfoeolllobidaaDoorRx
import Derived.Test.YtmfoeolllobidaaDoorRi4
namespace Go.Proofs.YtmfoeolllobidaaDoor
open Go.RowKit
set_option linter.unusedVariables false
set_option linter.unusedSimpArgs false
theorem dQ_end (H L K D : Nat) : dQ H L K D K = (H * 2 ^ K + L) / D := by unfold dQ dN; simp
theorem dR_end (H L K D : Nat) : dR H L K D K = (H * 2 ^ K + L) % D := by unfold dR dN; simp
theorem dQ_zero (H L K D : Nat) (hH : H < D) (hL : L < 2 ^ K) : dQ H L K D 0 = 0 := by
  unfold dQ dN
  rw [Nat.sub_zero, Nat.div_eq_of_lt hL, Nat.pow_zero, Nat.mul_one, Nat.add_zero, Nat.div_eq_of_lt hH, Nat.zero_mul]
theorem dR_zero (H L K D : Nat) (hH : H < D) (hL : L < 2 ^ K) : dR H L K D 0 = H := by
  unfold dR dN
  rw [Nat.sub_zero, Nat.div_eq_of_lt hL, Nat.pow_zero, Nat.mul_one, Nat.add_zero, Nat.mod_eq_of_lt hH]
theorem div_both (a b d : Nat) (ha : U a) (hb : U b) (hd : U d) (wd : Int) : ∃ (q r : Nat) (ok : Bool),
    (∀ W, Mk W → Calls Tryd.prog 26 #[.int .i64 wd, .int .u64 a, .int .u64 b, .int .u64 d] W fun e w' => e = .returned (.tuple #[.int .u64 (q : Int), .int .u64 (r : Int), .bool ok]) ∧ Below W.heap.size W w') ∧
    (∀ W, Calls Tryd.prog 27 #[.int .i64 wd, .int .u64 a, .int .u64 b, .int .u64 d] W fun e w' => e = .returned (.tuple #[.int .u64 (q : Int), .int .u64 (r : Int), .bool ok]) ∧ W = w') := by
  have hA := fun W => rcut_any a ha wd W
  have hB := fun W => rcut_any b hb wd W
  have hD := fun W => rcut_any d hd wd W
  by_cases hlt : cN a wd < cN d wd
  · refine ⟨_, _, _, fun W hW => adiv_any a b d ha hb hd wd hlt W hW, fun W => ?_⟩
    have hL : cN b wd < 2 ^ (8 * hN wd) := cN_lt _ _
    have hbd := hN_bd wd
    have hD0 : (((cN d wd : Nat) : Int) == 0) = false := by simp; omega
    have hHD : ((cN a wd : Nat) : Int) < (cN d wd : Nat) := by omega
    have hR0 := dR_zero (cN a wd) (cN b wd) (8 * hN wd) (cN d wd) hlt hL
    have hQ0 := dQ_zero (cN a wd) (cN b wd) (8 * hN wd) (cN d wd) hlt hL
    have hst := d_steps (cN a wd) (cN b wd) (8 * hN wd) (cN d wd) (by omega) hlt (cN_U d hd wd) hL (cN_U b hb wd)
    have eQ := dQ_end (cN a wd) (cN b wd) (8 * hN wd) (cN d wd)
    have eR := dR_end (cN a wd) (cN b wd) (8 * hN wd) (cN d wd)
    show Calls _ _ _ _ fun e w' => e = .returned (.tuple #[.int .u64 (((cN a wd * 2 ^ (8 * hN wd) + cN b wd) / cN d wd : Nat) : Int), .int .u64 (((cN a wd * 2 ^ (8 * hN wd) + cN b wd) % cN d wd : Nat) : Int), .bool true]) ∧ _
    rw [← eQ, ← eR]
    have hIN := hI_N wd
    by_cases h1 : wd < 1
    · have hI1 : hI wd = 1 := by unfold hI; rw [if_pos h1]
      exact rdiv_a a b d _ _ _ (8 * hN wd) _ _ _ wd (by omega) h1 (by omega) hA hB hD hD0 hHD hR0 hQ0 hst W
    · by_cases h2 : wd < 8
      · have hIw : hI wd = wd := by unfold hI; rw [if_neg h1, if_neg (by omega)]
        exact rdiv_m a b d _ _ _ (8 * hN wd) _ _ _ wd (by omega) h1 h2 (by omega) hA hB hD hD0 hHD hR0 hQ0 hst W
      · have hI8 : hI wd = 8 := by unfold hI; rw [if_neg h1]; split <;> omega
        by_cases h3 : wd = 8
        · exact rdiv_z a b d _ _ _ (8 * hN wd) _ _ _ wd (by omega) h3 (by omega) hA hB hD hD0 hHD hR0 hQ0 hst W
        · exact rdiv_y a b d _ _ _ (8 * hN wd) _ _ _ wd (by omega) (by omega) (by omega) hA hB hD hD0 hHD hR0 hQ0 hst W
  · refine ⟨0, 0, false, fun W hW => adiv_none a b d ha hb hd wd hlt W hW, fun W => ?_⟩
    cases hz : (((cN d wd : Nat) : Int) == 0)
    · exact rdiv_none1 a b d _ _ _ wd hA hB hD hz (by omega) W
    · exact rdiv_none0 a b d _ _ _ wd hA hB hD hz W
theorem neg_cut (v : Nat) (wd : Int) (hv : v < 2 ^ (8 * hN wd)) : cN (IntKind.u64.wrap (-(v : Int))).toNat wd = (2 ^ (8 * hN wd) - v) % 2 ^ (8 * hN wd) := by
  unfold cN
  rw [IntKind.wrap_u64]
  rcases hN_cases wd with h | h | h | h | h | h | h | h <;> rw [h] at hv ⊢ <;> simp only [Nat.reduceMul, Nat.reducePow] at hv ⊢ <;> omega
theorem fit_atoms (wd : Int) (z : Int) (P l : Nat) (mn : Bool) (hz : z = if mn then -(P : Int) else P) (hl : (l : Int) = z % 18446744073709551616) :
    (sgI l wd = z ↔ (P / 2 ^ (8 * hN wd) = 0 ∧ (P % 2 ^ (8 * hN wd) < 2 ^ (8 * hN wd - 1) ∨ (mn = true ∧ P % 2 ^ (8 * hN wd) = 2 ^ (8 * hN wd - 1))))) ∧
    cN l wd = (if mn then (2 ^ (8 * hN wd) - P % 2 ^ (8 * hN wd)) % 2 ^ (8 * hN wd) else P % 2 ^ (8 * hN wd)) := by
  unfold sgI sB cN
  simp only [decide_eq_true_eq]
  cases mn
  all_goals
    simp only [if_true, if_false, Bool.false_eq_true, false_and, true_and, or_false] at hz ⊢
    rcases hN_cases wd with h | h | h | h | h | h | h | h <;> rw [h] <;> simp only [Nat.reduceMul, Nat.reducePow, Nat.reduceSub] <;> refine ⟨?_, by omega⟩ <;> split <;> omega
theorem mag (a : Nat) (wd : Int) (sa : Bool) (hs : sB a wd = sa) (X : Nat) (hX : X = if sa then cN (IntKind.u64.wrap (-((cN a wd : Nat) : Int))).toNat wd else cN a wd) :
    X < 2 ^ (8 * hN wd) ∧ sgI a wd = if sa then -(X : Int) else X := by
  have hc := cN_lt a wd
  have hs' : decide (a / 2 ^ (8 * hN wd - 1) % 2 = 1) = sa := hs
  cases sa
  · simp only [if_false, Bool.false_eq_true] at hX ⊢
    refine ⟨by omega, ?_⟩
    unfold sgI
    rw [hs]
    simp [hX]
  · simp only [if_true] at hX ⊢
    rw [neg_cut _ _ hc] at hX
    simp only [decide_eq_true_eq] at hs'
    unfold sgI
    rw [hs]
    simp only [if_true]
    unfold cN at *
    rcases hN_cases wd with h | h | h | h | h | h | h | h <;> rw [h] at hc hX hs' ⊢ <;> simp only [Nat.reduceMul, Nat.reducePow, Nat.reduceSub] at hc hX hs' ⊢ <;> omega
theorem ival (a b : Nat) (ha : U a) (hb : U b) (wd : Int) (sa sb : Bool) (hsa : sB a wd = sa) (hsb : sB b wd = sb) (X Y : Nat)
    (hX : X = if sa then cN (IntKind.u64.wrap (-((cN a wd : Nat) : Int))).toNat wd else cN a wd) (hY : Y = if sb then cN (IntKind.u64.wrap (-((cN b wd : Nat) : Int))).toNat wd else cN b wd) :
    (if (sa != sb) then cN (IntKind.u64.wrap (-((lowM X Y wd : Nat) : Int))).toNat wd else lowM X Y wd) = iR a b wd ∧
    iC a b wd = !((((highM X Y wd : Nat) : Int) == 0) && (decide (((lowM X Y wd : Nat) : Int) < ((2 ^ (8 * hN wd - 1) : Nat) : Int)) || ((sa != sb) && (((lowM X Y wd : Nat) : Int) == ((2 ^ (8 * hN wd - 1) : Nat) : Int))))) := by
  obtain ⟨x1, x2⟩ := mag a wd sa hsa X hX
  obtain ⟨y1, y2⟩ := mag b wd sb hsb Y hY
  have hP : pM X Y wd = X * Y := by unfold pM; rw [show cN X wd = X from Nat.mod_eq_of_lt x1, show cN Y wd = Y from Nat.mod_eq_of_lt y1]
  have eL : lowM X Y wd = X * Y % 2 ^ (8 * hN wd) := by unfold lowM; rw [hP]
  have eH : highM X Y wd = X * Y / 2 ^ (8 * hN wd) := by unfold highM; rw [hP]
  have hz : zI a b wd = if (sa != sb) then -((X * Y : Nat) : Int) else ((X * Y : Nat) : Int) := by
    unfold zI
    rw [x2, y2, Int.natCast_mul]
    cases sa <;> cases sb <;> simp [Int.neg_mul, Int.mul_neg]
  obtain ⟨l1, _⟩ := lo_hi8 a b ha hb wd
  obtain ⟨f1, f2⟩ := fit_atoms wd _ _ _ _ hz l1
  have hlt : lowM X Y wd < 2 ^ (8 * hN wd) := Nat.mod_lt _ (Nat.two_pow_pos _)
  rw [neg_cut _ _ hlt, eL, eH, iC_val8 a b ha hb wd]
  refine ⟨?_, ?_⟩
  · unfold iR
    rw [f2]
  · congr 1
    rw [Bool.eq_iff_iff]
    simp only [decide_eq_true_eq, Bool.and_eq_true, Bool.or_eq_true, beq_iff_eq]
    rw [f1]
    constructor
    · rintro ⟨h1, h2⟩
      refine ⟨by rw [h1]; rfl, ?_⟩
      rcases h2 with h2 | ⟨h2, h3⟩
      · exact .inl (by exact_mod_cast h2)
      · exact .inr ⟨h2, by rw [h3]⟩
    · rintro ⟨h1, h2⟩
      refine ⟨by exact_mod_cast h1, ?_⟩
      rcases h2 with h2 | ⟨h2, h3⟩
      · exact .inl (by exact_mod_cast h2)
      · exact .inr ⟨h2, by exact_mod_cast h3⟩
theorem imb_aff (a b : Nat) (ha : U a) (hb : U b) (wd : Int) (h1 : wd < 1) (hsa : sB a wd = false) (hsb : sB b wd = false) (W : World) :
    Calls Tryd.prog 23 #[.int .i64 wd, .int .u64 a, .int .u64 b] W fun e w' => e = .returned (.tuple #[.int .u64 (iR a b wd : Nat), fl (iC a b wd) (zB (iR a b wd) wd) (sB (iR a b wd) wd) (iC a b wd) (pB (iR a b wd))]) ∧ Below W.heap.size W w' := by
  obtain ⟨er, ec⟩ := ival a b ha hb wd false false hsa hsb _ _ rfl rfl
  simp only [if_true, if_false, Bool.false_eq_true, bne_self_eq_false, Bool.true_bne, Bool.false_bne, Bool.bne_true, Bool.bne_false, Bool.not_true, Bool.not_false] at er ec
  have et : ((2 ^ (8 * hN wd - 1) : Nat) : Int) = 128 := by unfold hN hI; rw [if_pos h1]; decide
  rw [et] at ec
  have hUX : U (cN a wd) := cN_U a ha wd
  have hUY : U (cN b wd) := cN_U b hb wd
  have hs1 := fun W => rsign_any (cN a wd) (cN_U a ha wd) wd W
  have hs2 := fun W => rsign_any (cN b wd) (cN_U b hb wd) wd W
  rw [sB_cN, hsa] at hs1
  rw [sB_cN, hsb] at hs2
  have := rimul_aff a b (cN a wd) (cN b wd) 0 0 (lowM (cN a wd) (cN b wd) wd) (highM (cN a wd) (cN b wd) wd) 0 0 wd (zB (lowM (cN a wd) (cN b wd) wd) wd) (sB (lowM (cN a wd) (cN b wd) wd) wd) (pB (lowM (cN a wd) (cN b wd) wd)) _ _ _ _ _ h1 (fun W => rcut_any a ha wd W) (fun W => rcut_any b hb wd W) hs1 hs2 (fun W => rmul_any _ _ hUX hUY wd W) (fun W => rlogic_any _ (lowM_U _ _ wd) wd W) W
  rw [er] at this ec
  rw [ec]
  exact this
theorem imb_aft (a b : Nat) (ha : U a) (hb : U b) (wd : Int) (h1 : wd < 1) (hsa : sB a wd = false) (hsb : sB b wd = true) (W : World) :
    Calls Tryd.prog 23 #[.int .i64 wd, .int .u64 a, .int .u64 b] W fun e w' => e = .returned (.tuple #[.int .u64 (iR a b wd : Nat), fl (iC a b wd) (zB (iR a b wd) wd) (sB (iR a b wd) wd) (iC a b wd) (pB (iR a b wd))]) ∧ Below W.heap.size W w' := by
  obtain ⟨er, ec⟩ := ival a b ha hb wd false true hsa hsb _ _ rfl rfl
  simp only [if_true, if_false, Bool.false_eq_true, bne_self_eq_false, Bool.true_bne, Bool.false_bne, Bool.bne_true, Bool.bne_false, Bool.not_true, Bool.not_false] at er ec
  have et : ((2 ^ (8 * hN wd - 1) : Nat) : Int) = 128 := by unfold hN hI; rw [if_pos h1]; decide
  rw [et] at ec
  have hUX : U (cN a wd) := cN_U a ha wd
  have hUY : U (cN (IntKind.u64.wrap (-((cN b wd : Nat) : Int))).toNat wd) := cN_U _ (by have := wrap_UI (-((cN b wd : Nat) : Int)); unfold UI at this; unfold U; omega) wd
  have hs1 := fun W => rsign_any (cN a wd) (cN_U a ha wd) wd W
  have hs2 := fun W => rsign_any (cN b wd) (cN_U b hb wd) wd W
  rw [sB_cN, hsa] at hs1
  rw [sB_cN, hsb] at hs2
  have := rimul_aft a b (cN a wd) (cN b wd) 0 (cN (IntKind.u64.wrap (-((cN b wd : Nat) : Int))).toNat wd) (lowM (cN a wd) (cN (IntKind.u64.wrap (-((cN b wd : Nat) : Int))).toNat wd) wd) (highM (cN a wd) (cN (IntKind.u64.wrap (-((cN b wd : Nat) : Int))).toNat wd) wd) (cN (IntKind.u64.wrap (-((lowM (cN a wd) (cN (IntKind.u64.wrap (-((cN b wd : Nat) : Int))).toNat wd) wd) : Int))).toNat wd) 0 wd (zB (cN (IntKind.u64.wrap (-((lowM (cN a wd) (cN (IntKind.u64.wrap (-((cN b wd : Nat) : Int))).toNat wd) wd) : Int))).toNat wd) wd) (sB (cN (IntKind.u64.wrap (-((lowM (cN a wd) (cN (IntKind.u64.wrap (-((cN b wd : Nat) : Int))).toNat wd) wd) : Int))).toNat wd) wd) (pB (cN (IntKind.u64.wrap (-((lowM (cN a wd) (cN (IntKind.u64.wrap (-((cN b wd : Nat) : Int))).toNat wd) wd) : Int))).toNat wd)) _ _ _ _ _ h1 (fun W => rcut_any a ha wd W) (fun W => rcut_any b hb wd W) hs1 hs2 (fun W => rcutI2 _ (wrap_UI _) wd W) (fun W => rmul_any _ _ hUX hUY wd W) (fun W => rcutI2 _ (wrap_UI _) wd W) (fun W => rlogic_any _ (cN_U _ (by have := wrap_UI (-((lowM (cN a wd) (cN (IntKind.u64.wrap (-((cN b wd : Nat) : Int))).toNat wd) wd) : Int)); unfold UI at this; unfold U; omega) wd) wd W) W
  rw [er] at this
  rw [ec]
  exact this
theorem imb_atf (a b : Nat) (ha : U a) (hb : U b) (wd : Int) (h1 : wd < 1) (hsa : sB a wd = true) (hsb : sB b wd = false) (W : World) :
    Calls Tryd.prog 23 #[.int .i64 wd, .int .u64 a, .int .u64 b] W fun e w' => e = .returned (.tuple #[.int .u64 (iR a b wd : Nat), fl (iC a b wd) (zB (iR a b wd) wd) (sB (iR a b wd) wd) (iC a b wd) (pB (iR a b wd))]) ∧ Below W.heap.size W w' := by
  obtain ⟨er, ec⟩ := ival a b ha hb wd true false hsa hsb _ _ rfl rfl
  simp only [if_true, if_false, Bool.false_eq_true, bne_self_eq_false, Bool.true_bne, Bool.false_bne, Bool.bne_true, Bool.bne_false, Bool.not_true, Bool.not_false] at er ec
  have et : ((2 ^ (8 * hN wd - 1) : Nat) : Int) = 128 := by unfold hN hI; rw [if_pos h1]; decide
  rw [et] at ec
  have hUX : U (cN (IntKind.u64.wrap (-((cN a wd : Nat) : Int))).toNat wd) := cN_U _ (by have := wrap_UI (-((cN a wd : Nat) : Int)); unfold UI at this; unfold U; omega) wd
  have hUY : U (cN b wd) := cN_U b hb wd
  have hs1 := fun W => rsign_any (cN a wd) (cN_U a ha wd) wd W
  have hs2 := fun W => rsign_any (cN b wd) (cN_U b hb wd) wd W
  rw [sB_cN, hsa] at hs1
  rw [sB_cN, hsb] at hs2
  have := rimul_atf a b (cN a wd) (cN b wd) (cN (IntKind.u64.wrap (-((cN a wd : Nat) : Int))).toNat wd) 0 (lowM (cN (IntKind.u64.wrap (-((cN a wd : Nat) : Int))).toNat wd) (cN b wd) wd) (highM (cN (IntKind.u64.wrap (-((cN a wd : Nat) : Int))).toNat wd) (cN b wd) wd) (cN (IntKind.u64.wrap (-((lowM (cN (IntKind.u64.wrap (-((cN a wd : Nat) : Int))).toNat wd) (cN b wd) wd) : Int))).toNat wd) 0 wd (zB (cN (IntKind.u64.wrap (-((lowM (cN (IntKind.u64.wrap (-((cN a wd : Nat) : Int))).toNat wd) (cN b wd) wd) : Int))).toNat wd) wd) (sB (cN (IntKind.u64.wrap (-((lowM (cN (IntKind.u64.wrap (-((cN a wd : Nat) : Int))).toNat wd) (cN b wd) wd) : Int))).toNat wd) wd) (pB (cN (IntKind.u64.wrap (-((lowM (cN (IntKind.u64.wrap (-((cN a wd : Nat) : Int))).toNat wd) (cN b wd) wd) : Int))).toNat wd)) _ _ _ _ _ h1 (fun W => rcut_any a ha wd W) (fun W => rcut_any b hb wd W) hs1 hs2 (fun W => rcutI2 _ (wrap_UI _) wd W) (fun W => rmul_any _ _ hUX hUY wd W) (fun W => rcutI2 _ (wrap_UI _) wd W) (fun W => rlogic_any _ (cN_U _ (by have := wrap_UI (-((lowM (cN (IntKind.u64.wrap (-((cN a wd : Nat) : Int))).toNat wd) (cN b wd) wd) : Int)); unfold UI at this; unfold U; omega) wd) wd W) W
  rw [er] at this
  rw [ec]
  exact this
theorem imb_att (a b : Nat) (ha : U a) (hb : U b) (wd : Int) (h1 : wd < 1) (hsa : sB a wd = true) (hsb : sB b wd = true) (W : World) :
    Calls Tryd.prog 23 #[.int .i64 wd, .int .u64 a, .int .u64 b] W fun e w' => e = .returned (.tuple #[.int .u64 (iR a b wd : Nat), fl (iC a b wd) (zB (iR a b wd) wd) (sB (iR a b wd) wd) (iC a b wd) (pB (iR a b wd))]) ∧ Below W.heap.size W w' := by
  obtain ⟨er, ec⟩ := ival a b ha hb wd true true hsa hsb _ _ rfl rfl
  simp only [if_true, if_false, Bool.false_eq_true, bne_self_eq_false, Bool.true_bne, Bool.false_bne, Bool.bne_true, Bool.bne_false, Bool.not_true, Bool.not_false] at er ec
  have et : ((2 ^ (8 * hN wd - 1) : Nat) : Int) = 128 := by unfold hN hI; rw [if_pos h1]; decide
  rw [et] at ec
  have hUX : U (cN (IntKind.u64.wrap (-((cN a wd : Nat) : Int))).toNat wd) := cN_U _ (by have := wrap_UI (-((cN a wd : Nat) : Int)); unfold UI at this; unfold U; omega) wd
  have hUY : U (cN (IntKind.u64.wrap (-((cN b wd : Nat) : Int))).toNat wd) := cN_U _ (by have := wrap_UI (-((cN b wd : Nat) : Int)); unfold UI at this; unfold U; omega) wd
  have hs1 := fun W => rsign_any (cN a wd) (cN_U a ha wd) wd W
  have hs2 := fun W => rsign_any (cN b wd) (cN_U b hb wd) wd W
  rw [sB_cN, hsa] at hs1
  rw [sB_cN, hsb] at hs2
  have := rimul_att a b (cN a wd) (cN b wd) (cN (IntKind.u64.wrap (-((cN a wd : Nat) : Int))).toNat wd) (cN (IntKind.u64.wrap (-((cN b wd : Nat) : Int))).toNat wd) (lowM (cN (IntKind.u64.wrap (-((cN a wd : Nat) : Int))).toNat wd) (cN (IntKind.u64.wrap (-((cN b wd : Nat) : Int))).toNat wd) wd) (highM (cN (IntKind.u64.wrap (-((cN a wd : Nat) : Int))).toNat wd) (cN (IntKind.u64.wrap (-((cN b wd : Nat) : Int))).toNat wd) wd) 0 0 wd (zB (lowM (cN (IntKind.u64.wrap (-((cN a wd : Nat) : Int))).toNat wd) (cN (IntKind.u64.wrap (-((cN b wd : Nat) : Int))).toNat wd) wd) wd) (sB (lowM (cN (IntKind.u64.wrap (-((cN a wd : Nat) : Int))).toNat wd) (cN (IntKind.u64.wrap (-((cN b wd : Nat) : Int))).toNat wd) wd) wd) (pB (lowM (cN (IntKind.u64.wrap (-((cN a wd : Nat) : Int))).toNat wd) (cN (IntKind.u64.wrap (-((cN b wd : Nat) : Int))).toNat wd) wd)) _ _ _ _ _ h1 (fun W => rcut_any a ha wd W) (fun W => rcut_any b hb wd W) hs1 hs2 (fun W => rcutI2 _ (wrap_UI _) wd W) (fun W => rcutI2 _ (wrap_UI _) wd W) (fun W => rmul_any _ _ hUX hUY wd W) (fun W => rlogic_any _ (lowM_U _ _ wd) wd W) W
  rw [er] at this ec
  rw [ec]
  exact this
theorem imb_mff (a b : Nat) (ha : U a) (hb : U b) (wd : Int) (h1 : ¬ wd < 1) (h2 : wd < 8) (hsa : sB a wd = false) (hsb : sB b wd = false) (W : World) :
    Calls Tryd.prog 23 #[.int .i64 wd, .int .u64 a, .int .u64 b] W fun e w' => e = .returned (.tuple #[.int .u64 (iR a b wd : Nat), fl (iC a b wd) (zB (iR a b wd) wd) (sB (iR a b wd) wd) (iC a b wd) (pB (iR a b wd))]) ∧ Below W.heap.size W w' := by
  obtain ⟨er, ec⟩ := ival a b ha hb wd false false hsa hsb _ _ rfl rfl
  simp only [if_true, if_false, Bool.false_eq_true, bne_self_eq_false, Bool.true_bne, Bool.false_bne, Bool.bne_true, Bool.bne_false, Bool.not_true, Bool.not_false] at er ec
  have et : ((2 ^ (8 * hN wd - 1) : Nat) : Int) = ((2 ^ (8 * hN wd - 1) : Nat) : Int) := rfl
  rw [et] at ec
  have hUX : U (cN a wd) := cN_U a ha wd
  have hUY : U (cN b wd) := cN_U b hb wd
  have hs1 := fun W => rsign_any (cN a wd) (cN_U a ha wd) wd W
  have hs2 := fun W => rsign_any (cN b wd) (cN_U b hb wd) wd W
  rw [sB_cN, hsa] at hs1
  rw [sB_cN, hsb] at hs2
  have e8 : (8 * wd).toNat = 8 * hN wd := by unfold hN hI; rw [if_neg h1, if_neg (by omega)]; omega
  have hb8 := hN_bd wd
  have htop : IntKind.u64.wrap (2 ^ ((8 * wd).toNat - 1)) = ((2 ^ (8 * hN wd - 1) : Nat) : Int) := by
    rw [e8, show ((2 : Int) ^ (8 * hN wd - 1)) = ((2 ^ (8 * hN wd - 1) : Nat) : Int) from by simp]
    exact wrapU _ (Nat.lt_of_lt_of_le (Nat.pow_lt_pow_right (by decide : 1 < 2) (show 8 * hN wd - 1 < 64 by omega)) (by decide))
  have := rimul_mff a b (cN a wd) (cN b wd) 0 0 (lowM (cN a wd) (cN b wd) wd) (highM (cN a wd) (cN b wd) wd) 0 ((2 ^ (8 * hN wd - 1) : Nat) : Int) wd (zB (lowM (cN a wd) (cN b wd) wd) wd) (sB (lowM (cN a wd) (cN b wd) wd) wd) (pB (lowM (cN a wd) (cN b wd) wd)) _ _ _ _ _ h1 h2 (fun W => rcut_any a ha wd W) (fun W => rcut_any b hb wd W) hs1 hs2 (fun W => rmul_any _ _ hUX hUY wd W) htop (fun W => rlogic_any _ (lowM_U _ _ wd) wd W) W
  rw [er] at this ec
  rw [ec]
  exact this
theorem imb_mft (a b : Nat) (ha : U a) (hb : U b) (wd : Int) (h1 : ¬ wd < 1) (h2 : wd < 8) (hsa : sB a wd = false) (hsb : sB b wd = true) (W : World) :
    Calls Tryd.prog 23 #[.int .i64 wd, .int .u64 a, .int .u64 b] W fun e w' => e = .returned (.tuple #[.int .u64 (iR a b wd : Nat), fl (iC a b wd) (zB (iR a b wd) wd) (sB (iR a b wd) wd) (iC a b wd) (pB (iR a b wd))]) ∧ Below W.heap.size W w' := by
  obtain ⟨er, ec⟩ := ival a b ha hb wd false true hsa hsb _ _ rfl rfl
  simp only [if_true, if_false, Bool.false_eq_true, bne_self_eq_false, Bool.true_bne, Bool.false_bne, Bool.bne_true, Bool.bne_false, Bool.not_true, Bool.not_false] at er ec
  have et : ((2 ^ (8 * hN wd - 1) : Nat) : Int) = ((2 ^ (8 * hN wd - 1) : Nat) : Int) := rfl
  rw [et] at ec
  have hUX : U (cN a wd) := cN_U a ha wd
  have hUY : U (cN (IntKind.u64.wrap (-((cN b wd : Nat) : Int))).toNat wd) := cN_U _ (by have := wrap_UI (-((cN b wd : Nat) : Int)); unfold UI at this; unfold U; omega) wd
  have hs1 := fun W => rsign_any (cN a wd) (cN_U a ha wd) wd W
  have hs2 := fun W => rsign_any (cN b wd) (cN_U b hb wd) wd W
  rw [sB_cN, hsa] at hs1
  rw [sB_cN, hsb] at hs2
  have e8 : (8 * wd).toNat = 8 * hN wd := by unfold hN hI; rw [if_neg h1, if_neg (by omega)]; omega
  have hb8 := hN_bd wd
  have htop : IntKind.u64.wrap (2 ^ ((8 * wd).toNat - 1)) = ((2 ^ (8 * hN wd - 1) : Nat) : Int) := by
    rw [e8, show ((2 : Int) ^ (8 * hN wd - 1)) = ((2 ^ (8 * hN wd - 1) : Nat) : Int) from by simp]
    exact wrapU _ (Nat.lt_of_lt_of_le (Nat.pow_lt_pow_right (by decide : 1 < 2) (show 8 * hN wd - 1 < 64 by omega)) (by decide))
  have := rimul_mft a b (cN a wd) (cN b wd) 0 (cN (IntKind.u64.wrap (-((cN b wd : Nat) : Int))).toNat wd) (lowM (cN a wd) (cN (IntKind.u64.wrap (-((cN b wd : Nat) : Int))).toNat wd) wd) (highM (cN a wd) (cN (IntKind.u64.wrap (-((cN b wd : Nat) : Int))).toNat wd) wd) (cN (IntKind.u64.wrap (-((lowM (cN a wd) (cN (IntKind.u64.wrap (-((cN b wd : Nat) : Int))).toNat wd) wd) : Int))).toNat wd) ((2 ^ (8 * hN wd - 1) : Nat) : Int) wd (zB (cN (IntKind.u64.wrap (-((lowM (cN a wd) (cN (IntKind.u64.wrap (-((cN b wd : Nat) : Int))).toNat wd) wd) : Int))).toNat wd) wd) (sB (cN (IntKind.u64.wrap (-((lowM (cN a wd) (cN (IntKind.u64.wrap (-((cN b wd : Nat) : Int))).toNat wd) wd) : Int))).toNat wd) wd) (pB (cN (IntKind.u64.wrap (-((lowM (cN a wd) (cN (IntKind.u64.wrap (-((cN b wd : Nat) : Int))).toNat wd) wd) : Int))).toNat wd)) _ _ _ _ _ h1 h2 (fun W => rcut_any a ha wd W) (fun W => rcut_any b hb wd W) hs1 hs2 (fun W => rcutI2 _ (wrap_UI _) wd W) (fun W => rmul_any _ _ hUX hUY wd W) (fun W => rcutI2 _ (wrap_UI _) wd W) htop (fun W => rlogic_any _ (cN_U _ (by have := wrap_UI (-((lowM (cN a wd) (cN (IntKind.u64.wrap (-((cN b wd : Nat) : Int))).toNat wd) wd) : Int)); unfold UI at this; unfold U; omega) wd) wd W) W
  rw [er] at this
  rw [ec]
  exact this
theorem imb_mtf (a b : Nat) (ha : U a) (hb : U b) (wd : Int) (h1 : ¬ wd < 1) (h2 : wd < 8) (hsa : sB a wd = true) (hsb : sB b wd = false) (W : World) :
    Calls Tryd.prog 23 #[.int .i64 wd, .int .u64 a, .int .u64 b] W fun e w' => e = .returned (.tuple #[.int .u64 (iR a b wd : Nat), fl (iC a b wd) (zB (iR a b wd) wd) (sB (iR a b wd) wd) (iC a b wd) (pB (iR a b wd))]) ∧ Below W.heap.size W w' := by
  obtain ⟨er, ec⟩ := ival a b ha hb wd true false hsa hsb _ _ rfl rfl
  simp only [if_true, if_false, Bool.false_eq_true, bne_self_eq_false, Bool.true_bne, Bool.false_bne, Bool.bne_true, Bool.bne_false, Bool.not_true, Bool.not_false] at er ec
  have et : ((2 ^ (8 * hN wd - 1) : Nat) : Int) = ((2 ^ (8 * hN wd - 1) : Nat) : Int) := rfl
  rw [et] at ec
  have hUX : U (cN (IntKind.u64.wrap (-((cN a wd : Nat) : Int))).toNat wd) := cN_U _ (by have := wrap_UI (-((cN a wd : Nat) : Int)); unfold UI at this; unfold U; omega) wd
  have hUY : U (cN b wd) := cN_U b hb wd
  have hs1 := fun W => rsign_any (cN a wd) (cN_U a ha wd) wd W
  have hs2 := fun W => rsign_any (cN b wd) (cN_U b hb wd) wd W
  rw [sB_cN, hsa] at hs1
  rw [sB_cN, hsb] at hs2
  have e8 : (8 * wd).toNat = 8 * hN wd := by unfold hN hI; rw [if_neg h1, if_neg (by omega)]; omega
  have hb8 := hN_bd wd
  have htop : IntKind.u64.wrap (2 ^ ((8 * wd).toNat - 1)) = ((2 ^ (8 * hN wd - 1) : Nat) : Int) := by
    rw [e8, show ((2 : Int) ^ (8 * hN wd - 1)) = ((2 ^ (8 * hN wd - 1) : Nat) : Int) from by simp]
    exact wrapU _ (Nat.lt_of_lt_of_le (Nat.pow_lt_pow_right (by decide : 1 < 2) (show 8 * hN wd - 1 < 64 by omega)) (by decide))
  have := rimul_mtf a b (cN a wd) (cN b wd) (cN (IntKind.u64.wrap (-((cN a wd : Nat) : Int))).toNat wd) 0 (lowM (cN (IntKind.u64.wrap (-((cN a wd : Nat) : Int))).toNat wd) (cN b wd) wd) (highM (cN (IntKind.u64.wrap (-((cN a wd : Nat) : Int))).toNat wd) (cN b wd) wd) (cN (IntKind.u64.wrap (-((lowM (cN (IntKind.u64.wrap (-((cN a wd : Nat) : Int))).toNat wd) (cN b wd) wd) : Int))).toNat wd) ((2 ^ (8 * hN wd - 1) : Nat) : Int) wd (zB (cN (IntKind.u64.wrap (-((lowM (cN (IntKind.u64.wrap (-((cN a wd : Nat) : Int))).toNat wd) (cN b wd) wd) : Int))).toNat wd) wd) (sB (cN (IntKind.u64.wrap (-((lowM (cN (IntKind.u64.wrap (-((cN a wd : Nat) : Int))).toNat wd) (cN b wd) wd) : Int))).toNat wd) wd) (pB (cN (IntKind.u64.wrap (-((lowM (cN (IntKind.u64.wrap (-((cN a wd : Nat) : Int))).toNat wd) (cN b wd) wd) : Int))).toNat wd)) _ _ _ _ _ h1 h2 (fun W => rcut_any a ha wd W) (fun W => rcut_any b hb wd W) hs1 hs2 (fun W => rcutI2 _ (wrap_UI _) wd W) (fun W => rmul_any _ _ hUX hUY wd W) (fun W => rcutI2 _ (wrap_UI _) wd W) htop (fun W => rlogic_any _ (cN_U _ (by have := wrap_UI (-((lowM (cN (IntKind.u64.wrap (-((cN a wd : Nat) : Int))).toNat wd) (cN b wd) wd) : Int)); unfold UI at this; unfold U; omega) wd) wd W) W
  rw [er] at this
  rw [ec]
  exact this
theorem imb_mtt (a b : Nat) (ha : U a) (hb : U b) (wd : Int) (h1 : ¬ wd < 1) (h2 : wd < 8) (hsa : sB a wd = true) (hsb : sB b wd = true) (W : World) :
    Calls Tryd.prog 23 #[.int .i64 wd, .int .u64 a, .int .u64 b] W fun e w' => e = .returned (.tuple #[.int .u64 (iR a b wd : Nat), fl (iC a b wd) (zB (iR a b wd) wd) (sB (iR a b wd) wd) (iC a b wd) (pB (iR a b wd))]) ∧ Below W.heap.size W w' := by
  obtain ⟨er, ec⟩ := ival a b ha hb wd true true hsa hsb _ _ rfl rfl
  simp only [if_true, if_false, Bool.false_eq_true, bne_self_eq_false, Bool.true_bne, Bool.false_bne, Bool.bne_true, Bool.bne_false, Bool.not_true, Bool.not_false] at er ec
  have et : ((2 ^ (8 * hN wd - 1) : Nat) : Int) = ((2 ^ (8 * hN wd - 1) : Nat) : Int) := rfl
  rw [et] at ec
  have hUX : U (cN (IntKind.u64.wrap (-((cN a wd : Nat) : Int))).toNat wd) := cN_U _ (by have := wrap_UI (-((cN a wd : Nat) : Int)); unfold UI at this; unfold U; omega) wd
  have hUY : U (cN (IntKind.u64.wrap (-((cN b wd : Nat) : Int))).toNat wd) := cN_U _ (by have := wrap_UI (-((cN b wd : Nat) : Int)); unfold UI at this; unfold U; omega) wd
  have hs1 := fun W => rsign_any (cN a wd) (cN_U a ha wd) wd W
  have hs2 := fun W => rsign_any (cN b wd) (cN_U b hb wd) wd W
  rw [sB_cN, hsa] at hs1
  rw [sB_cN, hsb] at hs2
  have e8 : (8 * wd).toNat = 8 * hN wd := by unfold hN hI; rw [if_neg h1, if_neg (by omega)]; omega
  have hb8 := hN_bd wd
  have htop : IntKind.u64.wrap (2 ^ ((8 * wd).toNat - 1)) = ((2 ^ (8 * hN wd - 1) : Nat) : Int) := by
    rw [e8, show ((2 : Int) ^ (8 * hN wd - 1)) = ((2 ^ (8 * hN wd - 1) : Nat) : Int) from by simp]
    exact wrapU _ (Nat.lt_of_lt_of_le (Nat.pow_lt_pow_right (by decide : 1 < 2) (show 8 * hN wd - 1 < 64 by omega)) (by decide))
  have := rimul_mtt a b (cN a wd) (cN b wd) (cN (IntKind.u64.wrap (-((cN a wd : Nat) : Int))).toNat wd) (cN (IntKind.u64.wrap (-((cN b wd : Nat) : Int))).toNat wd) (lowM (cN (IntKind.u64.wrap (-((cN a wd : Nat) : Int))).toNat wd) (cN (IntKind.u64.wrap (-((cN b wd : Nat) : Int))).toNat wd) wd) (highM (cN (IntKind.u64.wrap (-((cN a wd : Nat) : Int))).toNat wd) (cN (IntKind.u64.wrap (-((cN b wd : Nat) : Int))).toNat wd) wd) 0 ((2 ^ (8 * hN wd - 1) : Nat) : Int) wd (zB (lowM (cN (IntKind.u64.wrap (-((cN a wd : Nat) : Int))).toNat wd) (cN (IntKind.u64.wrap (-((cN b wd : Nat) : Int))).toNat wd) wd) wd) (sB (lowM (cN (IntKind.u64.wrap (-((cN a wd : Nat) : Int))).toNat wd) (cN (IntKind.u64.wrap (-((cN b wd : Nat) : Int))).toNat wd) wd) wd) (pB (lowM (cN (IntKind.u64.wrap (-((cN a wd : Nat) : Int))).toNat wd) (cN (IntKind.u64.wrap (-((cN b wd : Nat) : Int))).toNat wd) wd)) _ _ _ _ _ h1 h2 (fun W => rcut_any a ha wd W) (fun W => rcut_any b hb wd W) hs1 hs2 (fun W => rcutI2 _ (wrap_UI _) wd W) (fun W => rcutI2 _ (wrap_UI _) wd W) (fun W => rmul_any _ _ hUX hUY wd W) htop (fun W => rlogic_any _ (lowM_U _ _ wd) wd W) W
  rw [er] at this ec
  rw [ec]
  exact this
theorem imb_zff (a b : Nat) (ha : U a) (hb : U b) (wd : Int) (h3 : wd = 8) (hsa : sB a wd = false) (hsb : sB b wd = false) (W : World) :
    Calls Tryd.prog 23 #[.int .i64 wd, .int .u64 a, .int .u64 b] W fun e w' => e = .returned (.tuple #[.int .u64 (iR a b wd : Nat), fl (iC a b wd) (zB (iR a b wd) wd) (sB (iR a b wd) wd) (iC a b wd) (pB (iR a b wd))]) ∧ Below W.heap.size W w' := by
  obtain ⟨er, ec⟩ := ival a b ha hb wd false false hsa hsb _ _ rfl rfl
  simp only [if_true, if_false, Bool.false_eq_true, bne_self_eq_false, Bool.true_bne, Bool.false_bne, Bool.bne_true, Bool.bne_false, Bool.not_true, Bool.not_false] at er ec
  have et : ((2 ^ (8 * hN wd - 1) : Nat) : Int) = 9223372036854775808 := by subst h3; decide
  rw [et] at ec
  have hUX : U (cN a wd) := cN_U a ha wd
  have hUY : U (cN b wd) := cN_U b hb wd
  have hs1 := fun W => rsign_any (cN a wd) (cN_U a ha wd) wd W
  have hs2 := fun W => rsign_any (cN b wd) (cN_U b hb wd) wd W
  rw [sB_cN, hsa] at hs1
  rw [sB_cN, hsb] at hs2
  have := rimul_zff a b (cN a wd) (cN b wd) 0 0 (lowM (cN a wd) (cN b wd) wd) (highM (cN a wd) (cN b wd) wd) 0 0 wd (zB (lowM (cN a wd) (cN b wd) wd) wd) (sB (lowM (cN a wd) (cN b wd) wd) wd) (pB (lowM (cN a wd) (cN b wd) wd)) _ _ _ _ _ h3 (fun W => rcut_any a ha wd W) (fun W => rcut_any b hb wd W) hs1 hs2 (fun W => rmul_any _ _ hUX hUY wd W) (fun W => rlogic_any _ (lowM_U _ _ wd) wd W) W
  rw [er] at this ec
  rw [ec]
  exact this
theorem imb_zft (a b : Nat) (ha : U a) (hb : U b) (wd : Int) (h3 : wd = 8) (hsa : sB a wd = false) (hsb : sB b wd = true) (W : World) :
    Calls Tryd.prog 23 #[.int .i64 wd, .int .u64 a, .int .u64 b] W fun e w' => e = .returned (.tuple #[.int .u64 (iR a b wd : Nat), fl (iC a b wd) (zB (iR a b wd) wd) (sB (iR a b wd) wd) (iC a b wd) (pB (iR a b wd))]) ∧ Below W.heap.size W w' := by
  obtain ⟨er, ec⟩ := ival a b ha hb wd false true hsa hsb _ _ rfl rfl
  simp only [if_true, if_false, Bool.false_eq_true, bne_self_eq_false, Bool.true_bne, Bool.false_bne, Bool.bne_true, Bool.bne_false, Bool.not_true, Bool.not_false] at er ec
  have et : ((2 ^ (8 * hN wd - 1) : Nat) : Int) = 9223372036854775808 := by subst h3; decide
  rw [et] at ec
  have hUX : U (cN a wd) := cN_U a ha wd
  have hUY : U (cN (IntKind.u64.wrap (-((cN b wd : Nat) : Int))).toNat wd) := cN_U _ (by have := wrap_UI (-((cN b wd : Nat) : Int)); unfold UI at this; unfold U; omega) wd
  have hs1 := fun W => rsign_any (cN a wd) (cN_U a ha wd) wd W
  have hs2 := fun W => rsign_any (cN b wd) (cN_U b hb wd) wd W
  rw [sB_cN, hsa] at hs1
  rw [sB_cN, hsb] at hs2
  have := rimul_zft a b (cN a wd) (cN b wd) 0 (cN (IntKind.u64.wrap (-((cN b wd : Nat) : Int))).toNat wd) (lowM (cN a wd) (cN (IntKind.u64.wrap (-((cN b wd : Nat) : Int))).toNat wd) wd) (highM (cN a wd) (cN (IntKind.u64.wrap (-((cN b wd : Nat) : Int))).toNat wd) wd) (cN (IntKind.u64.wrap (-((lowM (cN a wd) (cN (IntKind.u64.wrap (-((cN b wd : Nat) : Int))).toNat wd) wd) : Int))).toNat wd) 0 wd (zB (cN (IntKind.u64.wrap (-((lowM (cN a wd) (cN (IntKind.u64.wrap (-((cN b wd : Nat) : Int))).toNat wd) wd) : Int))).toNat wd) wd) (sB (cN (IntKind.u64.wrap (-((lowM (cN a wd) (cN (IntKind.u64.wrap (-((cN b wd : Nat) : Int))).toNat wd) wd) : Int))).toNat wd) wd) (pB (cN (IntKind.u64.wrap (-((lowM (cN a wd) (cN (IntKind.u64.wrap (-((cN b wd : Nat) : Int))).toNat wd) wd) : Int))).toNat wd)) _ _ _ _ _ h3 (fun W => rcut_any a ha wd W) (fun W => rcut_any b hb wd W) hs1 hs2 (fun W => rcutI2 _ (wrap_UI _) wd W) (fun W => rmul_any _ _ hUX hUY wd W) (fun W => rcutI2 _ (wrap_UI _) wd W) (fun W => rlogic_any _ (cN_U _ (by have := wrap_UI (-((lowM (cN a wd) (cN (IntKind.u64.wrap (-((cN b wd : Nat) : Int))).toNat wd) wd) : Int)); unfold UI at this; unfold U; omega) wd) wd W) W
  rw [er] at this
  rw [ec]
  exact this
theorem imb_ztf (a b : Nat) (ha : U a) (hb : U b) (wd : Int) (h3 : wd = 8) (hsa : sB a wd = true) (hsb : sB b wd = false) (W : World) :
    Calls Tryd.prog 23 #[.int .i64 wd, .int .u64 a, .int .u64 b] W fun e w' => e = .returned (.tuple #[.int .u64 (iR a b wd : Nat), fl (iC a b wd) (zB (iR a b wd) wd) (sB (iR a b wd) wd) (iC a b wd) (pB (iR a b wd))]) ∧ Below W.heap.size W w' := by
  obtain ⟨er, ec⟩ := ival a b ha hb wd true false hsa hsb _ _ rfl rfl
  simp only [if_true, if_false, Bool.false_eq_true, bne_self_eq_false, Bool.true_bne, Bool.false_bne, Bool.bne_true, Bool.bne_false, Bool.not_true, Bool.not_false] at er ec
  have et : ((2 ^ (8 * hN wd - 1) : Nat) : Int) = 9223372036854775808 := by subst h3; decide
  rw [et] at ec
  have hUX : U (cN (IntKind.u64.wrap (-((cN a wd : Nat) : Int))).toNat wd) := cN_U _ (by have := wrap_UI (-((cN a wd : Nat) : Int)); unfold UI at this; unfold U; omega) wd
  have hUY : U (cN b wd) := cN_U b hb wd
  have hs1 := fun W => rsign_any (cN a wd) (cN_U a ha wd) wd W
  have hs2 := fun W => rsign_any (cN b wd) (cN_U b hb wd) wd W
  rw [sB_cN, hsa] at hs1
  rw [sB_cN, hsb] at hs2
  have := rimul_ztf a b (cN a wd) (cN b wd) (cN (IntKind.u64.wrap (-((cN a wd : Nat) : Int))).toNat wd) 0 (lowM (cN (IntKind.u64.wrap (-((cN a wd : Nat) : Int))).toNat wd) (cN b wd) wd) (highM (cN (IntKind.u64.wrap (-((cN a wd : Nat) : Int))).toNat wd) (cN b wd) wd) (cN (IntKind.u64.wrap (-((lowM (cN (IntKind.u64.wrap (-((cN a wd : Nat) : Int))).toNat wd) (cN b wd) wd) : Int))).toNat wd) 0 wd (zB (cN (IntKind.u64.wrap (-((lowM (cN (IntKind.u64.wrap (-((cN a wd : Nat) : Int))).toNat wd) (cN b wd) wd) : Int))).toNat wd) wd) (sB (cN (IntKind.u64.wrap (-((lowM (cN (IntKind.u64.wrap (-((cN a wd : Nat) : Int))).toNat wd) (cN b wd) wd) : Int))).toNat wd) wd) (pB (cN (IntKind.u64.wrap (-((lowM (cN (IntKind.u64.wrap (-((cN a wd : Nat) : Int))).toNat wd) (cN b wd) wd) : Int))).toNat wd)) _ _ _ _ _ h3 (fun W => rcut_any a ha wd W) (fun W => rcut_any b hb wd W) hs1 hs2 (fun W => rcutI2 _ (wrap_UI _) wd W) (fun W => rmul_any _ _ hUX hUY wd W) (fun W => rcutI2 _ (wrap_UI _) wd W) (fun W => rlogic_any _ (cN_U _ (by have := wrap_UI (-((lowM (cN (IntKind.u64.wrap (-((cN a wd : Nat) : Int))).toNat wd) (cN b wd) wd) : Int)); unfold UI at this; unfold U; omega) wd) wd W) W
  rw [er] at this
  rw [ec]
  exact this
theorem imb_ztt (a b : Nat) (ha : U a) (hb : U b) (wd : Int) (h3 : wd = 8) (hsa : sB a wd = true) (hsb : sB b wd = true) (W : World) :
    Calls Tryd.prog 23 #[.int .i64 wd, .int .u64 a, .int .u64 b] W fun e w' => e = .returned (.tuple #[.int .u64 (iR a b wd : Nat), fl (iC a b wd) (zB (iR a b wd) wd) (sB (iR a b wd) wd) (iC a b wd) (pB (iR a b wd))]) ∧ Below W.heap.size W w' := by
  obtain ⟨er, ec⟩ := ival a b ha hb wd true true hsa hsb _ _ rfl rfl
  simp only [if_true, if_false, Bool.false_eq_true, bne_self_eq_false, Bool.true_bne, Bool.false_bne, Bool.bne_true, Bool.bne_false, Bool.not_true, Bool.not_false] at er ec
  have et : ((2 ^ (8 * hN wd - 1) : Nat) : Int) = 9223372036854775808 := by subst h3; decide
  rw [et] at ec
  have hUX : U (cN (IntKind.u64.wrap (-((cN a wd : Nat) : Int))).toNat wd) := cN_U _ (by have := wrap_UI (-((cN a wd : Nat) : Int)); unfold UI at this; unfold U; omega) wd
  have hUY : U (cN (IntKind.u64.wrap (-((cN b wd : Nat) : Int))).toNat wd) := cN_U _ (by have := wrap_UI (-((cN b wd : Nat) : Int)); unfold UI at this; unfold U; omega) wd
  have hs1 := fun W => rsign_any (cN a wd) (cN_U a ha wd) wd W
  have hs2 := fun W => rsign_any (cN b wd) (cN_U b hb wd) wd W
  rw [sB_cN, hsa] at hs1
  rw [sB_cN, hsb] at hs2
  have := rimul_ztt a b (cN a wd) (cN b wd) (cN (IntKind.u64.wrap (-((cN a wd : Nat) : Int))).toNat wd) (cN (IntKind.u64.wrap (-((cN b wd : Nat) : Int))).toNat wd) (lowM (cN (IntKind.u64.wrap (-((cN a wd : Nat) : Int))).toNat wd) (cN (IntKind.u64.wrap (-((cN b wd : Nat) : Int))).toNat wd) wd) (highM (cN (IntKind.u64.wrap (-((cN a wd : Nat) : Int))).toNat wd) (cN (IntKind.u64.wrap (-((cN b wd : Nat) : Int))).toNat wd) wd) 0 0 wd (zB (lowM (cN (IntKind.u64.wrap (-((cN a wd : Nat) : Int))).toNat wd) (cN (IntKind.u64.wrap (-((cN b wd : Nat) : Int))).toNat wd) wd) wd) (sB (lowM (cN (IntKind.u64.wrap (-((cN a wd : Nat) : Int))).toNat wd) (cN (IntKind.u64.wrap (-((cN b wd : Nat) : Int))).toNat wd) wd) wd) (pB (lowM (cN (IntKind.u64.wrap (-((cN a wd : Nat) : Int))).toNat wd) (cN (IntKind.u64.wrap (-((cN b wd : Nat) : Int))).toNat wd) wd)) _ _ _ _ _ h3 (fun W => rcut_any a ha wd W) (fun W => rcut_any b hb wd W) hs1 hs2 (fun W => rcutI2 _ (wrap_UI _) wd W) (fun W => rcutI2 _ (wrap_UI _) wd W) (fun W => rmul_any _ _ hUX hUY wd W) (fun W => rlogic_any _ (lowM_U _ _ wd) wd W) W
  rw [er] at this ec
  rw [ec]
  exact this
theorem imb_yff (a b : Nat) (ha : U a) (hb : U b) (wd : Int) (h1 : ¬ wd < 1) (h3 : 8 < wd) (hsa : sB a wd = false) (hsb : sB b wd = false) (W : World) :
    Calls Tryd.prog 23 #[.int .i64 wd, .int .u64 a, .int .u64 b] W fun e w' => e = .returned (.tuple #[.int .u64 (iR a b wd : Nat), fl (iC a b wd) (zB (iR a b wd) wd) (sB (iR a b wd) wd) (iC a b wd) (pB (iR a b wd))]) ∧ Below W.heap.size W w' := by
  obtain ⟨er, ec⟩ := ival a b ha hb wd false false hsa hsb _ _ rfl rfl
  simp only [if_true, if_false, Bool.false_eq_true, bne_self_eq_false, Bool.true_bne, Bool.false_bne, Bool.bne_true, Bool.bne_false, Bool.not_true, Bool.not_false] at er ec
  have et : ((2 ^ (8 * hN wd - 1) : Nat) : Int) = 9223372036854775808 := by unfold hN hI; rw [if_neg h1, if_pos h3]; decide
  rw [et] at ec
  have hUX : U (cN a wd) := cN_U a ha wd
  have hUY : U (cN b wd) := cN_U b hb wd
  have hs1 := fun W => rsign_any (cN a wd) (cN_U a ha wd) wd W
  have hs2 := fun W => rsign_any (cN b wd) (cN_U b hb wd) wd W
  rw [sB_cN, hsa] at hs1
  rw [sB_cN, hsb] at hs2
  have := rimul_yff a b (cN a wd) (cN b wd) 0 0 (lowM (cN a wd) (cN b wd) wd) (highM (cN a wd) (cN b wd) wd) 0 0 wd (zB (lowM (cN a wd) (cN b wd) wd) wd) (sB (lowM (cN a wd) (cN b wd) wd) wd) (pB (lowM (cN a wd) (cN b wd) wd)) _ _ _ _ _ (by omega) (fun W => rcut_any a ha wd W) (fun W => rcut_any b hb wd W) hs1 hs2 (fun W => rmul_any _ _ hUX hUY wd W) (fun W => rlogic_any _ (lowM_U _ _ wd) wd W) W
  rw [er] at this ec
  rw [ec]
  exact this
theorem imb_yft (a b : Nat) (ha : U a) (hb : U b) (wd : Int) (h1 : ¬ wd < 1) (h3 : 8 < wd) (hsa : sB a wd = false) (hsb : sB b wd = true) (W : World) :
    Calls Tryd.prog 23 #[.int .i64 wd, .int .u64 a, .int .u64 b] W fun e w' => e = .returned (.tuple #[.int .u64 (iR a b wd : Nat), fl (iC a b wd) (zB (iR a b wd) wd) (sB (iR a b wd) wd) (iC a b wd) (pB (iR a b wd))]) ∧ Below W.heap.size W w' := by
  obtain ⟨er, ec⟩ := ival a b ha hb wd false true hsa hsb _ _ rfl rfl
  simp only [if_true, if_false, Bool.false_eq_true, bne_self_eq_false, Bool.true_bne, Bool.false_bne, Bool.bne_true, Bool.bne_false, Bool.not_true, Bool.not_false] at er ec
  have et : ((2 ^ (8 * hN wd - 1) : Nat) : Int) = 9223372036854775808 := by unfold hN hI; rw [if_neg h1, if_pos h3]; decide
  rw [et] at ec
  have hUX : U (cN a wd) := cN_U a ha wd
  have hUY : U (cN (IntKind.u64.wrap (-((cN b wd : Nat) : Int))).toNat wd) := cN_U _ (by have := wrap_UI (-((cN b wd : Nat) : Int)); unfold UI at this; unfold U; omega) wd
  have hs1 := fun W => rsign_any (cN a wd) (cN_U a ha wd) wd W
  have hs2 := fun W => rsign_any (cN b wd) (cN_U b hb wd) wd W
  rw [sB_cN, hsa] at hs1
  rw [sB_cN, hsb] at hs2
  have := rimul_yft a b (cN a wd) (cN b wd) 0 (cN (IntKind.u64.wrap (-((cN b wd : Nat) : Int))).toNat wd) (lowM (cN a wd) (cN (IntKind.u64.wrap (-((cN b wd : Nat) : Int))).toNat wd) wd) (highM (cN a wd) (cN (IntKind.u64.wrap (-((cN b wd : Nat) : Int))).toNat wd) wd) (cN (IntKind.u64.wrap (-((lowM (cN a wd) (cN (IntKind.u64.wrap (-((cN b wd : Nat) : Int))).toNat wd) wd) : Int))).toNat wd) 0 wd (zB (cN (IntKind.u64.wrap (-((lowM (cN a wd) (cN (IntKind.u64.wrap (-((cN b wd : Nat) : Int))).toNat wd) wd) : Int))).toNat wd) wd) (sB (cN (IntKind.u64.wrap (-((lowM (cN a wd) (cN (IntKind.u64.wrap (-((cN b wd : Nat) : Int))).toNat wd) wd) : Int))).toNat wd) wd) (pB (cN (IntKind.u64.wrap (-((lowM (cN a wd) (cN (IntKind.u64.wrap (-((cN b wd : Nat) : Int))).toNat wd) wd) : Int))).toNat wd)) _ _ _ _ _ (by omega) (fun W => rcut_any a ha wd W) (fun W => rcut_any b hb wd W) hs1 hs2 (fun W => rcutI2 _ (wrap_UI _) wd W) (fun W => rmul_any _ _ hUX hUY wd W) (fun W => rcutI2 _ (wrap_UI _) wd W) (fun W => rlogic_any _ (cN_U _ (by have := wrap_UI (-((lowM (cN a wd) (cN (IntKind.u64.wrap (-((cN b wd : Nat) : Int))).toNat wd) wd) : Int)); unfold UI at this; unfold U; omega) wd) wd W) W
  rw [er] at this
  rw [ec]
  exact this
theorem imb_ytf (a b : Nat) (ha : U a) (hb : U b) (wd : Int) (h1 : ¬ wd < 1) (h3 : 8 < wd) (hsa : sB a wd = true) (hsb : sB b wd = false) (W : World) :
    Calls Tryd.prog 23 #[.int .i64 wd, .int .u64 a, .int .u64 b] W fun e w' => e = .returned (.tuple #[.int .u64 (iR a b wd : Nat), fl (iC a b wd) (zB (iR a b wd) wd) (sB (iR a b wd) wd) (iC a b wd) (pB (iR a b wd))]) ∧ Below W.heap.size W w' := by
  obtain ⟨er, ec⟩ := ival a b ha hb wd true false hsa hsb _ _ rfl rfl
  simp only [if_true, if_false, Bool.false_eq_true, bne_self_eq_false, Bool.true_bne, Bool.false_bne, Bool.bne_true, Bool.bne_false, Bool.not_true, Bool.not_false] at er ec
  have et : ((2 ^ (8 * hN wd - 1) : Nat) : Int) = 9223372036854775808 := by unfold hN hI; rw [if_neg h1, if_pos h3]; decide
  rw [et] at ec
  have hUX : U (cN (IntKind.u64.wrap (-((cN a wd : Nat) : Int))).toNat wd) := cN_U _ (by have := wrap_UI (-((cN a wd : Nat) : Int)); unfold UI at this; unfold U; omega) wd
  have hUY : U (cN b wd) := cN_U b hb wd
  have hs1 := fun W => rsign_any (cN a wd) (cN_U a ha wd) wd W
  have hs2 := fun W => rsign_any (cN b wd) (cN_U b hb wd) wd W
  rw [sB_cN, hsa] at hs1
  rw [sB_cN, hsb] at hs2
  have := rimul_ytf a b (cN a wd) (cN b wd) (cN (IntKind.u64.wrap (-((cN a wd : Nat) : Int))).toNat wd) 0 (lowM (cN (IntKind.u64.wrap (-((cN a wd : Nat) : Int))).toNat wd) (cN b wd) wd) (highM (cN (IntKind.u64.wrap (-((cN a wd : Nat) : Int))).toNat wd) (cN b wd) wd) (cN (IntKind.u64.wrap (-((lowM (cN (IntKind.u64.wrap (-((cN a wd : Nat) : Int))).toNat wd) (cN b wd) wd) : Int))).toNat wd) 0 wd (zB (cN (IntKind.u64.wrap (-((lowM (cN (IntKind.u64.wrap (-((cN a wd : Nat) : Int))).toNat wd) (cN b wd) wd) : Int))).toNat wd) wd) (sB (cN (IntKind.u64.wrap (-((lowM (cN (IntKind.u64.wrap (-((cN a wd : Nat) : Int))).toNat wd) (cN b wd) wd) : Int))).toNat wd) wd) (pB (cN (IntKind.u64.wrap (-((lowM (cN (IntKind.u64.wrap (-((cN a wd : Nat) : Int))).toNat wd) (cN b wd) wd) : Int))).toNat wd)) _ _ _ _ _ (by omega) (fun W => rcut_any a ha wd W) (fun W => rcut_any b hb wd W) hs1 hs2 (fun W => rcutI2 _ (wrap_UI _) wd W) (fun W => rmul_any _ _ hUX hUY wd W) (fun W => rcutI2 _ (wrap_UI _) wd W) (fun W => rlogic_any _ (cN_U _ (by have := wrap_UI (-((lowM (cN (IntKind.u64.wrap (-((cN a wd : Nat) : Int))).toNat wd) (cN b wd) wd) : Int)); unfold UI at this; unfold U; omega) wd) wd W) W
  rw [er] at this
  rw [ec]
  exact this
theorem imb_ytt (a b : Nat) (ha : U a) (hb : U b) (wd : Int) (h1 : ¬ wd < 1) (h3 : 8 < wd) (hsa : sB a wd = true) (hsb : sB b wd = true) (W : World) :
    Calls Tryd.prog 23 #[.int .i64 wd, .int .u64 a, .int .u64 b] W fun e w' => e = .returned (.tuple #[.int .u64 (iR a b wd : Nat), fl (iC a b wd) (zB (iR a b wd) wd) (sB (iR a b wd) wd) (iC a b wd) (pB (iR a b wd))]) ∧ Below W.heap.size W w' := by
  obtain ⟨er, ec⟩ := ival a b ha hb wd true true hsa hsb _ _ rfl rfl
  simp only [if_true, if_false, Bool.false_eq_true, bne_self_eq_false, Bool.true_bne, Bool.false_bne, Bool.bne_true, Bool.bne_false, Bool.not_true, Bool.not_false] at er ec
  have et : ((2 ^ (8 * hN wd - 1) : Nat) : Int) = 9223372036854775808 := by unfold hN hI; rw [if_neg h1, if_pos h3]; decide
  rw [et] at ec
  have hUX : U (cN (IntKind.u64.wrap (-((cN a wd : Nat) : Int))).toNat wd) := cN_U _ (by have := wrap_UI (-((cN a wd : Nat) : Int)); unfold UI at this; unfold U; omega) wd
  have hUY : U (cN (IntKind.u64.wrap (-((cN b wd : Nat) : Int))).toNat wd) := cN_U _ (by have := wrap_UI (-((cN b wd : Nat) : Int)); unfold UI at this; unfold U; omega) wd
  have hs1 := fun W => rsign_any (cN a wd) (cN_U a ha wd) wd W
  have hs2 := fun W => rsign_any (cN b wd) (cN_U b hb wd) wd W
  rw [sB_cN, hsa] at hs1
  rw [sB_cN, hsb] at hs2
  have := rimul_ytt a b (cN a wd) (cN b wd) (cN (IntKind.u64.wrap (-((cN a wd : Nat) : Int))).toNat wd) (cN (IntKind.u64.wrap (-((cN b wd : Nat) : Int))).toNat wd) (lowM (cN (IntKind.u64.wrap (-((cN a wd : Nat) : Int))).toNat wd) (cN (IntKind.u64.wrap (-((cN b wd : Nat) : Int))).toNat wd) wd) (highM (cN (IntKind.u64.wrap (-((cN a wd : Nat) : Int))).toNat wd) (cN (IntKind.u64.wrap (-((cN b wd : Nat) : Int))).toNat wd) wd) 0 0 wd (zB (lowM (cN (IntKind.u64.wrap (-((cN a wd : Nat) : Int))).toNat wd) (cN (IntKind.u64.wrap (-((cN b wd : Nat) : Int))).toNat wd) wd) wd) (sB (lowM (cN (IntKind.u64.wrap (-((cN a wd : Nat) : Int))).toNat wd) (cN (IntKind.u64.wrap (-((cN b wd : Nat) : Int))).toNat wd) wd) wd) (pB (lowM (cN (IntKind.u64.wrap (-((cN a wd : Nat) : Int))).toNat wd) (cN (IntKind.u64.wrap (-((cN b wd : Nat) : Int))).toNat wd) wd)) _ _ _ _ _ (by omega) (fun W => rcut_any a ha wd W) (fun W => rcut_any b hb wd W) hs1 hs2 (fun W => rcutI2 _ (wrap_UI _) wd W) (fun W => rcutI2 _ (wrap_UI _) wd W) (fun W => rmul_any _ _ hUX hUY wd W) (fun W => rlogic_any _ (lowM_U _ _ wd) wd W) W
  rw [er] at this ec
  rw [ec]
  exact this
theorem rimul_any (a b : Nat) (ha : U a) (hb : U b) (wd : Int) (W : World) :
    Calls Tryd.prog 23 #[.int .i64 wd, .int .u64 a, .int .u64 b] W fun e w' => e = .returned (.tuple #[.int .u64 (iR a b wd : Nat), fl (iC a b wd) (zB (iR a b wd) wd) (sB (iR a b wd) wd) (iC a b wd) (pB (iR a b wd))]) ∧ Below W.heap.size W w' := by
  by_cases h1 : wd < 1
  · cases hsa : sB a wd <;> cases hsb : sB b wd
    · exact imb_aff a b ha hb wd h1 hsa hsb W
    · exact imb_aft a b ha hb wd h1 hsa hsb W
    · exact imb_atf a b ha hb wd h1 hsa hsb W
    · exact imb_att a b ha hb wd h1 hsa hsb W
  · by_cases h2 : wd < 8
    · cases hsa : sB a wd <;> cases hsb : sB b wd
      · exact imb_mff a b ha hb wd h1 h2 hsa hsb W
      · exact imb_mft a b ha hb wd h1 h2 hsa hsb W
      · exact imb_mtf a b ha hb wd h1 h2 hsa hsb W
      · exact imb_mtt a b ha hb wd h1 h2 hsa hsb W
    · by_cases h3 : wd = 8
      · cases hsa : sB a wd <;> cases hsb : sB b wd
        · exact imb_zff a b ha hb wd h3 hsa hsb W
        · exact imb_zft a b ha hb wd h3 hsa hsb W
        · exact imb_ztf a b ha hb wd h3 hsa hsb W
        · exact imb_ztt a b ha hb wd h3 hsa hsb W
      · cases hsa : sB a wd <;> cases hsb : sB b wd
        · exact imb_yff a b ha hb wd h1 (by omega) hsa hsb W
        · exact imb_yft a b ha hb wd h1 (by omega) hsa hsb W
        · exact imb_ytf a b ha hb wd h1 (by omega) hsa hsb W
        · exact imb_ytt a b ha hb wd h1 (by omega) hsa hsb W
end Go.Proofs.YtmfoeolllobidaaDoor
