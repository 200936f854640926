/- OperandParts: what a prefix's bits do to what is taken. -/
import Derived.Test.YtkpnafgmjcnniaaDoorBk
import Derived.Test.YtkpnafgmjcnniaaDoorUs
import Derived.Test.YtkpnafgmjcnniaaDoorRw
namespace Go.Proofs.YtkpnafgmjcnniaaDoor
open Go.RowKit
set_option linter.unusedVariables false
set_option linter.unusedSimpArgs false
theorem gN_z (j : Nat) : gN 0 j = 0 := by unfold gN; simp
theorem gN_low (R : Nat) : gN (R % 8) 0 = gN R 0 ∧ gN (R % 8) 1 = gN R 1 ∧ gN (R % 8) 2 = gN R 2 := by
  unfold gN
  simp only [show (2 : Nat) ^ 0 = 1 from rfl, show (2 : Nat) ^ 1 = 2 from rfl, show (2 : Nat) ^ 2 = 4 from rfl]
  refine ⟨?_, ?_, ?_⟩
  · rw [show R % 8 / 1 % 2 = R / 1 % 2 by omega]
  · rw [show R % 8 / 2 % 2 = R / 2 % 2 by omega]
  · rw [show R % 8 / 4 % 2 = R / 4 % 2 by omega]
theorem tk_low (n : Nat) (z : Nat → Nat) (R : Nat) : tkF n z (R % 8) = tkF n z R := by
  obtain ⟨h0, h1, h2⟩ := gN_low R
  unfold tkF
  rw [h0, h1, h2]
/-- What an operand has of one without a prefix. -/
def Rel (o q : Opd) : Prop := o.k = q.k ∧ o.d = q.d ∧ o.p = q.p ∧ (o.r = q.r ∨ o.r = q.r + 8) ∧ (o.b = q.b ∨ o.b = q.b + 8) ∧ (o.i = q.i ∨ o.i = q.i + 8 ∨ (q.i = -1 ∧ o.i = 12)) ∧ (0 ≤ q.r ∧ q.r ≤ 15) ∧ (-1 ≤ q.b ∧ q.b ≤ 15) ∧ (-1 ≤ q.i ∧ q.i ≤ 15) ∧ (-1 ≤ o.b ∧ o.b ≤ 15) ∧ (-1 ≤ o.i ∧ o.i ≤ 15)
attribute [local irreducible] dI gN
theorem tk_none (n : Nat) (z : Nat → Nat) (R : Nat) (h : tkF n z R = none) : tkF n z 0 = none := by
  unfold tkF at h ⊢
  split at h
  · rename_i h0; rw [if_pos h0]
  rename_i h0
  rw [if_neg h0]
  split at h
  · cases h
  rename_i h3
  rw [if_neg h3]
  split at h
  · rename_i h4
    rw [if_pos h4]
    split at h
    · rename_i h2; rw [if_pos h2]
    rename_i h2
    rw [if_neg h2]
    dsimp only at h ⊢
    generalize (if z 1 % 8 = 5 ∧ z 0 / 64 = 0 then 4 else wdM (z 0 / 64)) = wd at h ⊢
    split at h
    · rename_i hx; rw [if_pos hx]
    · cases h
  rename_i h4
  rw [if_neg h4]
  split at h
  · rename_i h5
    rw [if_pos h5]
    split at h
    · rename_i hx; rw [if_pos hx]
    · cases h
  rename_i h5
  rw [if_neg h5]
  split at h
  · rename_i hx; rw [if_pos hx]
  · cases h
theorem se_rel (lo mid mode : Nat) (top top2 g0 g1 : Int) (G0 : g0 = 0 ∨ g0 = 8) (G1 : g1 = 0 ∨ g1 = 8) (hl : lo < 8) (hm : mid < 8) :
    (seB lo g0 (-1) mode = seB lo 0 (-1) mode ∨ seB lo g0 (-1) mode = seB lo 0 (-1) mode + 8) ∧ (seI mid g1 (-1) = seI mid 0 (-1) ∨ seI mid g1 (-1) = seI mid 0 (-1) + 8 ∨ (seI mid 0 (-1) = -1 ∧ seI mid g1 (-1) = 12)) ∧
    (-1 ≤ seB lo 0 (-1) mode ∧ seB lo 0 (-1) mode ≤ 15) ∧ (-1 ≤ seI mid 0 (-1) ∧ seI mid 0 (-1) ≤ 15) ∧ (-1 ≤ seB lo g0 (-1) mode ∧ seB lo g0 (-1) mode ≤ 15) ∧ (-1 ≤ seI mid g1 (-1) ∧ seI mid g1 (-1) ≤ 15) := by
  unfold seB seI
  refine ⟨?_, ?_, ?_, ?_, ?_, ?_⟩ <;> (repeat' split) <;> omega
set_option maxHeartbeats 2000000 in
theorem tk_some (n : Nat) (z : Nat → Nat) (R : Nat) (reg : Int) (o : Opd) (k : Nat) (h : tkF n z R = some (reg, o, k)) :
    ∃ t q, tkF n z 0 = some (t, q, k) ∧ reg = t + gN R 2 ∧ (0 ≤ t ∧ t ≤ 7) ∧ Rel o q := by
  have G : ∀ j, gN R j = 0 ∨ gN R j = 8 := fun j => by have := gN_bd R j; unfold gN; split <;> simp
  have g0 := G 0
  have g1 := G 1
  clear G
  have hr : (0 : Int) ≤ (z 0 / 8 % 8 : Nat) ∧ ((z 0 / 8 % 8 : Nat) : Int) ≤ 7 := by omega
  have hl : (0 : Int) ≤ (z 0 % 8 : Nat) ∧ ((z 0 % 8 : Nat) : Int) ≤ 7 := by omega
  unfold tkF at h
  split at h
  · cases h
  rename_i h0
  split at h
  · rename_i h3
    simp only [Option.some.injEq, Prod.mk.injEq] at h
    obtain ⟨rfl, rfl, rfl⟩ := h
    refine ⟨(z 0 / 8 % 8 : Nat), regO ((z 0 % 8 : Nat)), ?_, rfl, hr, ?_⟩
    · unfold tkF; rw [if_neg h0, if_pos h3, gN_z, gN_z, Int.add_zero, Int.add_zero]
    · unfold Rel regO; dsimp only
      refine ⟨rfl, rfl, rfl, ?_, .inl rfl, .inl rfl, ?_, ?_, ?_, ?_, ?_⟩ <;> omega
  rename_i h3
  split at h
  · rename_i h4
    split at h
    · cases h
    rename_i h2
    dsimp only at h
    generalize hW : (if z 1 % 8 = 5 ∧ z 0 / 64 = 0 then 4 else wdM (z 0 / 64)) = wd at h
    split at h
    · cases h
    rename_i hx
    simp only [Option.some.injEq, Prod.mk.injEq] at h
    obtain ⟨rfl, rfl, rfl⟩ := h
    refine ⟨(z 0 / 8 % 8 : Nat), memO (seB (z 1 % 8 : Nat) 0 (-1) (z 0 / 64 : Nat)) (seI (z 1 / 8 % 8 : Nat) 0 (-1)) (seS (z 1 / 8 % 8 : Nat) 0 1 (z 1 / 64 : Nat)) (dI z 2 wd) false, ?_, rfl, hr, ?_⟩
    · unfold tkF; rw [if_neg h0, if_neg h3, if_pos h4, if_neg h2]; dsimp only; rw [hW, if_neg hx, gN_z, gN_z, gN_z, Int.add_zero]
    · obtain ⟨q1, q2, q3, q4, q5, q6⟩ := se_rel (z 1 % 8) (z 1 / 8 % 8) (z 0 / 64) 0 0 (gN R 0) (gN R 1) g0 g1 (by omega) (by omega)
      unfold Rel memO; dsimp only
      exact ⟨rfl, rfl, rfl, .inl rfl, q1, q2, ⟨by decide, by decide⟩, q3, q4, q5, q6⟩
  rename_i h4
  split at h
  · rename_i h5
    split at h
    · cases h
    rename_i hx
    simp only [Option.some.injEq, Prod.mk.injEq] at h
    obtain ⟨rfl, rfl, rfl⟩ := h
    refine ⟨(z 0 / 8 % 8 : Nat), memO (-1) (-1) 1 (dI z 1 4) true, ?_, rfl, hr, ?_⟩
    · unfold tkF; rw [if_neg h0, if_neg h3, if_neg h4, if_pos h5, if_neg hx, gN_z, Int.add_zero]
    · unfold Rel memO; dsimp only
      refine ⟨rfl, rfl, rfl, .inl rfl, .inl rfl, .inl rfl, ?_, ?_, ?_, ?_, ?_⟩ <;> omega
  rename_i h5
  split at h
  · cases h
  rename_i hx
  simp only [Option.some.injEq, Prod.mk.injEq] at h
  obtain ⟨rfl, rfl, rfl⟩ := h
  refine ⟨(z 0 / 8 % 8 : Nat), memO ((z 0 % 8 : Nat)) (-1) 1 (dI z 1 (wdM (z 0 / 64))) false, ?_, rfl, hr, ?_⟩
  · unfold tkF; rw [if_neg h0, if_neg h3, if_neg h4, if_neg h5, if_neg hx, gN_z, gN_z, Int.add_zero, Int.add_zero]
  · unfold Rel memO; dsimp only
    refine ⟨rfl, rfl, rfl, .inl rfl, ?_, .inl rfl, ?_, ?_, ?_, ?_, ?_⟩ <;> omega
theorem uses_wide (o : Opd) (W : World) : Calls Tryd.prog 21 #[ov o.k o.r o.b o.i o.s o.d o.p o.m] W fun e w' => (∃ v, e = .returned v ∧ w'.ownsRow (W.heap.size + 1) 3 1 v (partL o.k o.b o.i).length ((partL o.k o.b o.i).map (Value.int .i64))) ∧ Below W.heap.size W w' :=
  callsIn_wide.1 (uses_in Fence.wide (Lib.hid rfl) 3 (Nat.le_refl _) o.k o.r o.b o.i o.s o.d o.p o.m W)
theorem rex7 : ∀ n : Fin 256, bits .and .u8 (n.val : Int) 7 = ((n.val % 8 : Nat) : Int) ∧ bits .and .u8 ((n.val : Int) / 4) 1 = ((n.val / 4 % 2 : Nat) : Int) := by decide +kernel
unseal gN in
theorem gN_two (R : Nat) : gN R 2 = 8 * ((R / 4 % 2 : Nat) : Int) := by
  unfold gN; simp only [show (2 : Nat) ^ 2 = 4 from rfl]; split <;> omega
end Go.Proofs.YtkpnafgmjcnniaaDoor
