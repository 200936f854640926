/- operand.Take, one contract. -/
import Derived.Test.YtkpnafgmjcnniaaDoorTw
import Derived.Test.YtkpnafgmjcnniaaDoorTa1
import Derived.Test.YtkpnafgmjcnniaaDoorTb1
import Derived.Test.YtkpnafgmjcnniaaDoorTr1
import Derived.Test.YtkpnafgmjcnniaaDoorTs1
import Derived.Test.YtkpnafgmjcnniaaDoorTs2
import Derived.Test.YtkpnafgmjcnniaaDoorTs3
import Derived.Test.YtkpnafgmjcnniaaDoorTs4
import Derived.Test.YtkpnafgmjcnniaaDoorTf0
namespace Go.Proofs.YtkpnafgmjcnniaaDoor
open Go.RowKit
set_option linter.unusedVariables false
set_option linter.unusedSimpArgs false
theorem lo_beq (a : Nat) (c : Int) (b : Bool) (h : b = decide ((a : Int) = c)) : ((a : Int) == c) = b := by
  rw [h, Bool.eq_iff_iff]; simp
attribute [local irreducible] dI eN numN gN
theorem take_any (sp : Option Addr) (n cap : Nat) (z : Nat → Nat) (R : Nat) (hR : R < 256) (w : World) (hz : ∀ j, z j < 256) (hm : Mk w) (hb : BS w sp n z) (hl : n ≤ 1000) (hcap : n ≤ cap) :
    Calls Tryd.prog 13 #[.slice sp n cap, .int .u8 R] w fun e w' => e = .returned (tkV (tkF n z R)) ∧ Below w.heap.size w w' := by
  by_cases hn0 : n = 0
  · subst hn0
    rw [show tkF 0 z R = none from rfl]
    exact take_0 sp cap R w hm
  have hn : 0 < n := by omega
  have hz0 := hz 0
  have hz1 := hz 1
  have P2 : Hid (bits .and .u8 ((z 0 : Nat) : Int) 7 = ((z 0 % 8 : Nat) : Int)) := Lib.hid (by_fin ⟨z 0, hz 0⟩).2.1
  have P3 : Hid (bits .and .u8 (((z 0 : Nat) : Int) / 8) 7 = ((z 0 / 8 % 8 : Nat) : Int)) := Lib.hid (by_fin ⟨z 0, hz 0⟩).2.2
  have g0 := gN_bd R 0
  have g2 := gN_bd R 2
  have E1 := Lib.hid (dI_one z hz 0)
  by_cases hM3 : z 0 / 64 = 3
  · have e : tkF n z R = some ((z 0 / 8 % 8 : Nat) + gN R 2, regO ((z 0 % 8 : Nat) + gN R 0), 1) := by unfold tkF; rw [if_neg hn0, if_pos hM3]
    rw [e]
    exact take_reg sp n cap z R _ _ _ _ _ w hz hm hb hl hcap hn E1.out (by omega) P2.out P3.out (by omega) (by omega) (by omega) (by omega) g0.1 g0.2 g2.1 g2.2 (high1 R hR) (high4 R hR)
  have hM : z 0 / 64 = 0 ∨ z 0 / 64 = 1 ∨ z 0 / 64 = 2 := by omega
  by_cases h4 : z 0 % 8 = 4
  · have b4 : (((z 0 % 8 : Nat) : Int) == 4) = true := lo_beq _ _ _ (by simp; omega)
    by_cases h2 : n < 2
    · have e : tkF n z R = none := by unfold tkF; rw [if_neg hn0, if_neg hM3, if_pos h4, if_pos h2]
      rw [e]
      rcases hM with h | h | h
      · exact take_s0none sp n cap z R _ _ _ _ _ w hz hm hb hl hcap hn E1.out (by omega) P2.out P3.out (by omega) (by omega) (by omega) (by omega) g0.1 g0.2 g2.1 g2.2 (high1 R hR) (high4 R hR) b4 (by omega)
      · exact take_s1none sp n cap z R _ _ _ _ _ w hz hm hb hl hcap hn E1.out (by omega) P2.out P3.out (by omega) (by omega) (by omega) (by omega) g0.1 g0.2 g2.1 g2.2 (high1 R hR) (high4 R hR) b4 (by omega)
      · exact take_s2none sp n cap z R _ _ _ _ _ w hz hm hb hl hcap hn E1.out (by omega) P2.out P3.out (by omega) (by omega) (by omega) (by omega) g0.1 g0.2 g2.1 g2.2 (high1 R hR) (high4 R hR) b4 (by omega)
    have hwd : (if z 1 % 8 = 5 ∧ z 0 / 64 = 0 then 4 else wdM (z 0 / 64)) ≤ 8 := by unfold wdM; split <;> (try split) <;> (try split) <;> omega
    have hs2 := fun W => second_any R hR (z 1) (hz 1) (z 0 / 64) W
    have X1 := Lib.hid (dI_one z hz 1)
    by_cases hx : n < 2 + (if z 1 % 8 = 5 ∧ z 0 / 64 = 0 then 4 else wdM (z 0 / 64))
    · have e : tkF n z R = none := by unfold tkF; rw [if_neg hn0, if_neg hM3, if_pos h4, if_neg h2]; dsimp only; rw [if_pos hx]
      rw [e]
      generalize hwq : (if z 1 % 8 = 5 ∧ z 0 / 64 = 0 then 4 else wdM (z 0 / 64)) = wd at *
      rcases hM with h | h | h
      · rw [h, show wdM 0 = 0 from rfl] at hs2
        have HS2 := Lib.hid hs2
        clear hs2
        exact take_s0no sp n cap z R _ _ _ _ _ w hz hm hb hl hcap hn E1.out (by omega) P2.out P3.out (by omega) (by omega) (by omega) (by omega) g0.1 g0.2 g2.1 g2.2 (high1 R hR) (high4 R hR) b4 _ _ _ _ wd hwd (by omega) X1.out (by omega) HS2.out
      · rw [h, show wdM 1 = 1 from rfl] at hs2
        have HS2 := Lib.hid hs2
        clear hs2
        exact take_s1no sp n cap z R _ _ _ _ _ w hz hm hb hl hcap hn E1.out (by omega) P2.out P3.out (by omega) (by omega) (by omega) (by omega) g0.1 g0.2 g2.1 g2.2 (high1 R hR) (high4 R hR) b4 _ _ _ _ wd hwd (by omega) X1.out (by omega) HS2.out
      · rw [h, show wdM 2 = 4 from rfl] at hs2
        have HS2 := Lib.hid hs2
        clear hs2
        exact take_s2no sp n cap z R _ _ _ _ _ w hz hm hb hl hcap hn E1.out (by omega) P2.out P3.out (by omega) (by omega) (by omega) (by omega) g0.1 g0.2 g2.1 g2.2 (high1 R hR) (high4 R hR) b4 _ _ _ _ wd hwd (by omega) X1.out (by omega) HS2.out
    · have e : tkF n z R = some ((z 0 / 8 % 8 : Nat) + gN R 2, memO (seB (z 1 % 8 : Nat) (gN R 0) (-1) (z 0 / 64 : Nat)) (seI (z 1 / 8 % 8 : Nat) (gN R 1) (-1)) (seS (z 1 / 8 % 8 : Nat) (gN R 1) 1 (z 1 / 64 : Nat)) (dI z 2 (if z 1 % 8 = 5 ∧ z 0 / 64 = 0 then 4 else wdM (z 0 / 64))) false, 2 + (if z 1 % 8 = 5 ∧ z 0 / 64 = 0 then 4 else wdM (z 0 / 64))) := by
        unfold tkF; rw [if_neg hn0, if_neg hM3, if_pos h4, if_neg h2]; dsimp only; rw [if_neg hx]
      rw [e]
      generalize hwq : (if z 1 % 8 = 5 ∧ z 0 / 64 = 0 then 4 else wdM (z 0 / 64)) = wd at *
      rcases hM with h | h | h
      · rw [h, show wdM 0 = 0 from rfl] at hs2
        have HS2 := Lib.hid hs2
        clear hs2
        rw [h]
        exact take_s0ok sp n cap z R _ _ _ _ _ w hz hm hb hl hcap hn E1.out (by omega) P2.out P3.out (by omega) (by omega) (by omega) (by omega) g0.1 g0.2 g2.1 g2.2 (high1 R hR) (high4 R hR) b4 _ _ _ _ wd hwd (by omega) X1.out (by omega) HS2.out
      · rw [h, show wdM 1 = 1 from rfl] at hs2
        have HS2 := Lib.hid hs2
        clear hs2
        rw [h]
        exact take_s1ok sp n cap z R _ _ _ _ _ w hz hm hb hl hcap hn E1.out (by omega) P2.out P3.out (by omega) (by omega) (by omega) (by omega) g0.1 g0.2 g2.1 g2.2 (high1 R hR) (high4 R hR) b4 _ _ _ _ wd hwd (by omega) X1.out (by omega) HS2.out
      · rw [h, show wdM 2 = 4 from rfl] at hs2
        have HS2 := Lib.hid hs2
        clear hs2
        rw [h]
        exact take_s2ok sp n cap z R _ _ _ _ _ w hz hm hb hl hcap hn E1.out (by omega) P2.out P3.out (by omega) (by omega) (by omega) (by omega) g0.1 g0.2 g2.1 g2.2 (high1 R hR) (high4 R hR) b4 _ _ _ _ wd hwd (by omega) X1.out (by omega) HS2.out
  have b4 : (((z 0 % 8 : Nat) : Int) == 4) = false := lo_beq _ _ _ (by simp; omega)
  by_cases h5 : z 0 % 8 = 5 ∧ z 0 / 64 = 0
  · have b5 : (((z 0 % 8 : Nat) : Int) == 5) = true := lo_beq _ _ _ (by simp; omega)
    by_cases hx : n < 5
    · have e : tkF n z R = none := by unfold tkF; rw [if_neg hn0, if_neg hM3, if_neg h4, if_pos h5, if_pos hx]
      rw [e]
      exact take_rn sp n cap z R _ _ _ _ _ w hz hm hb hl hcap hn E1.out (by omega) P2.out P3.out (by omega) (by omega) (by omega) (by omega) g0.1 g0.2 g2.1 g2.2 (high1 R hR) (high4 R hR) b4 b5 (by omega)
    · have e : tkF n z R = some ((z 0 / 8 % 8 : Nat) + gN R 2, memO (-1) (-1) 1 (dI z 1 4) true, 5) := by unfold tkF; rw [if_neg hn0, if_neg hM3, if_neg h4, if_pos h5, if_neg hx]
      rw [e]
      exact take_r sp n cap z R _ _ _ _ _ w hz hm hb hl hcap hn E1.out (by omega) P2.out P3.out (by omega) (by omega) (by omega) (by omega) g0.1 g0.2 g2.1 g2.2 (high1 R hR) (high4 R hR) b4 b5 (by omega)
  by_cases hx : n < 1 + wdM (z 0 / 64)
  · have e : tkF n z R = none := by unfold tkF; rw [if_neg hn0, if_neg hM3, if_neg h4, if_neg h5, if_pos hx]
    rw [e]
    rcases hM with h | h | h
    · rw [h] at hx; simp [wdM] at hx; omega
    · rw [h] at hx
      have hx2 : n < 1 + 1 := hx
      exact take_b1n sp n cap z R _ _ _ _ _ w hz hm hb hl hcap hn E1.out (by omega) P2.out P3.out (by omega) (by omega) (by omega) (by omega) g0.1 g0.2 g2.1 g2.2 (high1 R hR) (high4 R hR) b4 _ rfl (by omega)
    · rw [h] at hx
      have hx2 : n < 1 + 4 := hx
      exact take_b2n sp n cap z R _ _ _ _ _ w hz hm hb hl hcap hn E1.out (by omega) P2.out P3.out (by omega) (by omega) (by omega) (by omega) g0.1 g0.2 g2.1 g2.2 (high1 R hR) (high4 R hR) b4 _ rfl (by omega)
  · have e : tkF n z R = some ((z 0 / 8 % 8 : Nat) + gN R 2, memO ((z 0 % 8 : Nat) + gN R 0) (-1) 1 (dI z 1 (wdM (z 0 / 64))) false, 1 + wdM (z 0 / 64)) := by unfold tkF; rw [if_neg hn0, if_neg hM3, if_neg h4, if_neg h5, if_neg hx]
    rw [e]
    rcases hM with h | h | h
    · have b5 : (((z 0 % 8 : Nat) : Int) == 5) = false := lo_beq _ _ _ (by simp; omega)
      rw [h, show wdM 0 = 0 from rfl]
      exact take_b0 sp n cap z R _ _ _ _ _ w hz hm hb hl hcap hn E1.out (by omega) P2.out P3.out (by omega) (by omega) (by omega) (by omega) g0.1 g0.2 g2.1 g2.2 (high1 R hR) (high4 R hR) b4 b5
    · rw [h] at hx ⊢
      have hx2 : ¬ n < 1 + 1 := hx
      rw [show wdM 1 = 1 from rfl]
      exact take_b1 sp n cap z R _ _ _ _ _ w hz hm hb hl hcap hn E1.out (by omega) P2.out P3.out (by omega) (by omega) (by omega) (by omega) g0.1 g0.2 g2.1 g2.2 (high1 R hR) (high4 R hR) b4 _ rfl (by omega)
    · rw [h] at hx ⊢
      have hx2 : ¬ n < 1 + 4 := hx
      rw [show wdM 2 = 4 from rfl]
      exact take_b2 sp n cap z R _ _ _ _ _ w hz hm hb hl hcap hn E1.out (by omega) P2.out P3.out (by omega) (by omega) (by omega) (by omega) g0.1 g0.2 g2.1 g2.2 (high1 R hR) (high4 R hR) b4 _ rfl (by omega)
end Go.Proofs.YtkpnafgmjcnniaaDoor
