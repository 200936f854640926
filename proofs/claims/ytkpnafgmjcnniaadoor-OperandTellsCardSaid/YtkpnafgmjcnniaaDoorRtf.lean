/- The document's own Take: one contract. -/
import Derived.Test.YtkpnafgmjcnniaaDoorTf0
import Derived.Test.YtkpnafgmjcnniaaDoorFm
import Derived.Test.YtkpnafgmjcnniaaDoorNr
import Derived.Test.YtkpnafgmjcnniaaDoorRt5
import Derived.Test.YtkpnafgmjcnniaaDoorRtA
import Derived.Test.YtkpnafgmjcnniaaDoorRsA
import Derived.Test.YtkpnafgmjcnniaaDoorRsB
import Derived.Test.YtkpnafgmjcnniaaDoorRsC
namespace Go.Proofs.YtkpnafgmjcnniaaDoor
open Go.RowKit
set_option linter.unusedVariables false
set_option linter.unusedSimpArgs false
theorem rex_fin : ∀ r : Fin 256, (bits .and .u8 (r.val : Int) 1 = ((r.val % 2 : Nat) : Int) ∧ gN r.val 0 = ((r.val % 2 : Nat) : Int) * 8) ∧ (bits .and .u8 ((r.val : Int) / 2) 1 = ((r.val / 2 % 2 : Nat) : Int) ∧ gN r.val 1 = ((r.val / 2 % 2 : Nat) : Int) * 8) ∧ (bits .and .u8 ((r.val : Int) / 4) 1 = ((r.val / 4 % 2 : Nat) : Int) ∧ gN r.val 2 = ((r.val / 4 % 2 : Nat) : Int) * 8) := by decide +kernel
theorem scale_fin : ∀ t : Fin 4, wrap64 (2 ^ t.val) = 2 ^ t.val := by decide +kernel
theorem tkV_mem (r b i s d : Int) (p : Bool) (k : Nat) : tkV (some (r, memO b i s d p, k)) = .tuple #[.int .i64 r, ov 2 0 b i s d p 0, .int .i64 (k : Int), .int .i64 0] := rfl
theorem tkV_none : tkV none = .tuple #[.int .i64 0, ov 0 0 0 0 0 0 false 0, .int .i64 0, .int .i64 80] := rfl
theorem bne4 (a : Int) (b : Bool) (h : b = !decide (a = 4)) : (a != 4) = b := by
  rw [h]; by_cases q : a = 4 <;> simp [q]
theorem beq5 (a : Nat) (h : a ≠ 5) : (((a : Nat) : Int) == 5) = false := by simp; omega
theorem num_1 (bb off n cap k : Nat) (z : Nat → Nat) (hz : ∀ j, z j < 256) (hk : k + 1 ≤ n) (hc : n ≤ cap) (W : World) (h : ∀ j, j < n → W.cell? ⟨bb, off + j, none⟩ = some (.int .u8 (z j : Nat))) :
    Calls Tryd.prog 45 #[.slice (some ⟨bb, off + k, none⟩) (n - k) (cap - k), .int .i64 1] W fun e w' => e = .returned (.tuple #[.int .i64 (dI z k 1), .bool true]) ∧ W = w' := by
  rw [dI_s1 z k hz]
  exact rnum_one bb (off + k) (n - k) (cap - k) (z k) W (hz k) (by omega) (by omega) (h k (by omega))
theorem num_4 (bb off n cap k : Nat) (z : Nat → Nat) (hz : ∀ j, z j < 256) (hk : k + 4 ≤ n) (hc : n ≤ cap) (W : World) (h : ∀ j, j < n → W.cell? ⟨bb, off + j, none⟩ = some (.int .u8 (z j : Nat))) :
    Calls Tryd.prog 45 #[.slice (some ⟨bb, off + k, none⟩) (n - k) (cap - k), .int .i64 4] W fun e w' => e = .returned (.tuple #[.int .i64 (dI z k 4), .bool true]) ∧ W = w' :=
  rnum_four bb (off + k) (n - k) (cap - k) z k W hz (by omega) (by omega) (fun j hj => by rw [Nat.add_assoc]; exact h (k + j) (by omega))
attribute [local irreducible] dI eN numN gN
theorem rtake_any (sp : Option Addr) (n cap : Nat) (z : Nat → Nat) (R : Nat) (hR : R < 256) (w : World) (hz : ∀ j, z j < 256) (hB : BS w sp n z) (hcap : n ≤ cap) :
    Calls Tryd.prog 14 #[.slice sp n cap, .int .u8 R] w fun e w' => e = .returned (tkV (tkF n z R)) ∧ Below w.heap.size w w' := by
  by_cases hn0 : n = 0
  · subst hn0
    rw [show tkF 0 z R = none from rfl, tkV_none]
    exact rtake_0 sp cap R w
  have hn : 0 < n := by omega
  obtain ⟨bb, off, rfl, hc⟩ := hB hn
  have hbb : bb < w.heap.size := by
    by_cases hh : bb < w.heap.size
    · exact hh
    · exfalso
      have h0 : w.heap[bb]? = none := Array.getElem?_eq_none (by omega)
      have h1 := hc 0 hn
      simp [World.cell?, h0] at h1
  have hz0 := hz 0
  have hz1 := hz 1
  have P2 := Lib.hid (by_fin ⟨z 0, hz 0⟩).2.1
  have P3 := Lib.hid (by_fin ⟨z 0, hz 0⟩).2.2
  have Y2 := Lib.hid (by_fin ⟨z 1, hz 1⟩).2.1
  have Y3 := Lib.hid (by_fin ⟨z 1, hz 1⟩).2.2
  have FR := rex_fin ⟨R, hR⟩
  obtain ⟨⟨X0, G0⟩, ⟨X1, G1⟩, X2, G2⟩ := FR
  dsimp only at X0 G0 X1 G1 X2 G2
  have X0 := Lib.hid X0
  have X1 := Lib.hid X1
  have X2 := Lib.hid X2
  have G0 := Lib.hid G0
  have G1 := Lib.hid G1
  have G2 := Lib.hid G2
  have ES := Lib.hid (scale_fin ⟨z 1 / 64, by omega⟩)
  by_cases hM3 : z 0 / 64 = 3
  · have e : tkF n z R = some ((z 0 / 8 % 8 : Nat) + gN R 2, regO ((z 0 % 8 : Nat) + gN R 0), 1) := by unfold tkF; rw [if_neg hn0, if_pos hM3]
    rw [e, G0.out, G2.out]
    exact rtake_reg n cap bb off z R (z 0 % 8 : Nat) (z 0 / 8 % 8 : Nat) (R % 2 : Nat) (R / 4 % 2 : Nat) w hn hcap hbb hc hz0 (by omega) P2.out P3.out X0.out X2.out (by omega) (by omega) (by omega) (by omega) (by omega) (by omega) (by omega) (by omega)
  by_cases h4 : z 0 % 8 = 4
  · have Q2 : Hid (bits .and .u8 ((z 0 : Nat) : Int) 7 = 4) := Lib.hid (P2.out.trans (by show ((z 0 % 8 : Nat) : Int) = 4; rw [h4]; rfl))
    by_cases h2 : n < 2
    · have e : tkF n z R = none := by unfold tkF; rw [if_neg hn0, if_neg hM3, if_pos h4, if_pos h2]
      rw [e, tkV_none]
      rcases (show z 0 / 64 = 0 ∨ z 0 / 64 = 1 ∨ z 0 / 64 = 2 by omega) with h | h | h
      · exact rs_less0 n cap bb off z R (z 0 / 8 % 8 : Nat) (R % 2 : Nat) (R / 4 % 2 : Nat) w hn hcap hbb hc hz0 (by omega) Q2.out P3.out X0.out X2.out (by omega) (by omega) (by omega) (by omega) (by omega) (by omega) h2
      · exact rs_less1 n cap bb off z R (z 0 / 8 % 8 : Nat) (R % 2 : Nat) (R / 4 % 2 : Nat) w hn hcap hbb hc hz0 (by omega) Q2.out P3.out X0.out X2.out (by omega) (by omega) (by omega) (by omega) (by omega) (by omega) h2
      · exact rs_less2 n cap bb off z R (z 0 / 8 % 8 : Nat) (R % 2 : Nat) (R / 4 % 2 : Nat) w hn hcap hbb hc hz0 (by omega) Q2.out P3.out X0.out X2.out (by omega) (by omega) (by omega) (by omega) (by omega) (by omega) h2
    have e0 : tkF n z R = (if n < 2 + (if z 1 % 8 = 5 ∧ z 0 / 64 = 0 then 4 else wdM (z 0 / 64)) then none else some ((z 0 / 8 % 8 : Nat) + gN R 2, memO (seB (z 1 % 8 : Nat) (gN R 0) (-1) (z 0 / 64 : Nat)) (seI (z 1 / 8 % 8 : Nat) (gN R 1) (-1)) (seS (z 1 / 8 % 8 : Nat) (gN R 1) 1 (z 1 / 64 : Nat)) (dI z 2 (if z 1 % 8 = 5 ∧ z 0 / 64 = 0 then 4 else wdM (z 0 / 64))) false, 2 + (if z 1 % 8 = 5 ∧ z 0 / 64 = 0 then 4 else wdM (z 0 / 64)))) := by unfold tkF; rw [if_neg hn0, if_neg hM3, if_pos h4, if_neg h2]
    rw [e0, G0.out, G1.out, G2.out]
    by_cases hi : ((z 1 / 8 % 8 : Nat) : Int) + ((R / 2 % 2 : Nat) : Int) * 8 = 4
    · have I4 := bne4 (((z 1 / 8 % 8 : Nat) : Int) + ((R / 2 % 2 : Nat) : Int) * 8) false (by rw [decide_eq_true hi]; rfl)
      have sI : seI (z 1 / 8 % 8 : Nat) (((R / 2 % 2 : Nat) : Int) * 8) (-1) = -1 := by unfold seI; rw [if_pos hi]
      have sS : seS (z 1 / 8 % 8 : Nat) (((R / 2 % 2 : Nat) : Int) * 8) 1 (z 1 / 64 : Nat) = 1 := by unfold seS; rw [if_pos hi]
      rw [sI, sS]
      rcases (show z 0 / 64 = 0 ∨ z 0 / 64 = 1 ∨ z 0 / 64 = 2 by omega) with h | h | h
      · by_cases h5 : z 1 % 8 = 5
        · have W2 : Hid (bits .and .u8 ((z 1 : Nat) : Int) 7 = 5) := Lib.hid (Y2.out.trans (by show ((z 1 % 8 : Nat) : Int) = 5; rw [h5]; rfl))
          have hw : (if z 1 % 8 = 5 ∧ z 0 / 64 = 0 then 4 else wdM (z 0 / 64)) = 4 := if_pos ⟨h5, h⟩
          rw [hw, show seB (z 1 % 8 : Nat) (((R % 2 : Nat) : Int) * 8) (-1) (z 0 / 64 : Nat) = -1 by unfold seB; rw [if_pos (by omega)]]
          by_cases hx : n < 2 + 4
          · rw [if_pos hx, tkV_none]
            exact rs_05xf n cap bb off z R (z 0 / 8 % 8 : Nat) (R % 2 : Nat) (R / 4 % 2 : Nat) w hn hcap hbb hc hz0 (by omega) Q2.out P3.out X0.out X2.out (by omega) (by omega) (by omega) (by omega) (by omega) (by omega) (2 ^ (z 1 / 64)) (z 1 / 8 % 8 : Nat) (R / 2 % 2 : Nat) W2.out Y3.out X1.out ES.out hz1 (by omega) (by omega) (by omega) (by omega) I4 ⟨by omega, by omega⟩
          · rw [if_neg hx, tkV_mem]
            exact rs_05xo n cap bb off z R (z 0 / 8 % 8 : Nat) (R % 2 : Nat) (R / 4 % 2 : Nat) w hn hcap hbb hc hz0 (by omega) Q2.out P3.out X0.out X2.out (by omega) (by omega) (by omega) (by omega) (by omega) (by omega) (2 ^ (z 1 / 64)) (z 1 / 8 % 8 : Nat) (R / 2 % 2 : Nat) W2.out Y3.out X1.out ES.out hz1 (by omega) (by omega) (by omega) (by omega) I4 (by omega) (dI z 2 4) (fun W h => num_4 bb off n cap 2 z hz (by omega) hcap W h)
        · have hw : (if z 1 % 8 = 5 ∧ z 0 / 64 = 0 then 4 else wdM (z 0 / 64)) = wdM (z 0 / 64) := if_neg (show ¬ (z 1 % 8 = 5 ∧ z 0 / 64 = 0) by omega)
          rw [hw, show seB (z 1 % 8 : Nat) (((R % 2 : Nat) : Int) * 8) (-1) (z 0 / 64 : Nat) = ((z 1 % 8 : Nat) : Int) + ((R % 2 : Nat) : Int) * 8 by unfold seB; rw [if_neg (by omega)]]
          rw [h, show wdM 0 = 0 from rfl]
          rw [if_neg (by omega), dI_nil, tkV_mem]
          exact rs_0nxo n cap bb off z R (z 0 / 8 % 8 : Nat) (R % 2 : Nat) (R / 4 % 2 : Nat) w hn hcap hbb hc hz0 (by omega) Q2.out P3.out X0.out X2.out (by omega) (by omega) (by omega) (by omega) (by omega) (by omega) (2 ^ (z 1 / 64)) (z 1 / 8 % 8 : Nat) (R / 2 % 2 : Nat) (z 1 % 8 : Nat) Y2.out Y3.out X1.out ES.out hz1 (by omega) (by omega) (beq5 _ h5) (by omega) (by omega) (by omega) (by omega) I4 (by omega)
      · by_cases h5 : z 1 % 8 = 5
        · have W2 : Hid (bits .and .u8 ((z 1 : Nat) : Int) 7 = 5) := Lib.hid (Y2.out.trans (by show ((z 1 % 8 : Nat) : Int) = 5; rw [h5]; rfl))
          have hw : (if z 1 % 8 = 5 ∧ z 0 / 64 = 0 then 4 else wdM (z 0 / 64)) = wdM (z 0 / 64) := if_neg (show ¬ (z 1 % 8 = 5 ∧ z 0 / 64 = 0) by omega)
          rw [hw, show seB (z 1 % 8 : Nat) (((R % 2 : Nat) : Int) * 8) (-1) (z 0 / 64 : Nat) = 5 + ((R % 2 : Nat) : Int) * 8 by unfold seB; rw [if_neg (by omega)]; omega]
          rw [h, show wdM 1 = 1 from rfl]
          by_cases hx : n < 2 + 1
          · rw [if_pos hx, tkV_none]
            exact rs_15xf n cap bb off z R (z 0 / 8 % 8 : Nat) (R % 2 : Nat) (R / 4 % 2 : Nat) w hn hcap hbb hc hz0 (by omega) Q2.out P3.out X0.out X2.out (by omega) (by omega) (by omega) (by omega) (by omega) (by omega) (2 ^ (z 1 / 64)) (z 1 / 8 % 8 : Nat) (R / 2 % 2 : Nat) W2.out Y3.out X1.out ES.out hz1 (by omega) (by omega) (by omega) (by omega) I4 ⟨by omega, by omega⟩
          · rw [if_neg hx, tkV_mem]
            exact rs_15xo n cap bb off z R (z 0 / 8 % 8 : Nat) (R % 2 : Nat) (R / 4 % 2 : Nat) w hn hcap hbb hc hz0 (by omega) Q2.out P3.out X0.out X2.out (by omega) (by omega) (by omega) (by omega) (by omega) (by omega) (2 ^ (z 1 / 64)) (z 1 / 8 % 8 : Nat) (R / 2 % 2 : Nat) W2.out Y3.out X1.out ES.out hz1 (by omega) (by omega) (by omega) (by omega) I4 (by omega) (dI z 2 1) (fun W h => num_1 bb off n cap 2 z hz (by omega) hcap W h)
        · have hw : (if z 1 % 8 = 5 ∧ z 0 / 64 = 0 then 4 else wdM (z 0 / 64)) = wdM (z 0 / 64) := if_neg (show ¬ (z 1 % 8 = 5 ∧ z 0 / 64 = 0) by omega)
          rw [hw, show seB (z 1 % 8 : Nat) (((R % 2 : Nat) : Int) * 8) (-1) (z 0 / 64 : Nat) = ((z 1 % 8 : Nat) : Int) + ((R % 2 : Nat) : Int) * 8 by unfold seB; rw [if_neg (by omega)]]
          rw [h, show wdM 1 = 1 from rfl]
          by_cases hx : n < 2 + 1
          · rw [if_pos hx, tkV_none]
            exact rs_1nxf n cap bb off z R (z 0 / 8 % 8 : Nat) (R % 2 : Nat) (R / 4 % 2 : Nat) w hn hcap hbb hc hz0 (by omega) Q2.out P3.out X0.out X2.out (by omega) (by omega) (by omega) (by omega) (by omega) (by omega) (2 ^ (z 1 / 64)) (z 1 / 8 % 8 : Nat) (R / 2 % 2 : Nat) (z 1 % 8 : Nat) Y2.out Y3.out X1.out ES.out hz1 (by omega) (by omega) (beq5 _ h5) (by omega) (by omega) (by omega) (by omega) I4 ⟨by omega, by omega⟩
          · rw [if_neg hx, tkV_mem]
            exact rs_1nxo n cap bb off z R (z 0 / 8 % 8 : Nat) (R % 2 : Nat) (R / 4 % 2 : Nat) w hn hcap hbb hc hz0 (by omega) Q2.out P3.out X0.out X2.out (by omega) (by omega) (by omega) (by omega) (by omega) (by omega) (2 ^ (z 1 / 64)) (z 1 / 8 % 8 : Nat) (R / 2 % 2 : Nat) (z 1 % 8 : Nat) Y2.out Y3.out X1.out ES.out hz1 (by omega) (by omega) (beq5 _ h5) (by omega) (by omega) (by omega) (by omega) I4 (by omega) (dI z 2 1) (fun W h => num_1 bb off n cap 2 z hz (by omega) hcap W h)
      · by_cases h5 : z 1 % 8 = 5
        · have W2 : Hid (bits .and .u8 ((z 1 : Nat) : Int) 7 = 5) := Lib.hid (Y2.out.trans (by show ((z 1 % 8 : Nat) : Int) = 5; rw [h5]; rfl))
          have hw : (if z 1 % 8 = 5 ∧ z 0 / 64 = 0 then 4 else wdM (z 0 / 64)) = wdM (z 0 / 64) := if_neg (show ¬ (z 1 % 8 = 5 ∧ z 0 / 64 = 0) by omega)
          rw [hw, show seB (z 1 % 8 : Nat) (((R % 2 : Nat) : Int) * 8) (-1) (z 0 / 64 : Nat) = 5 + ((R % 2 : Nat) : Int) * 8 by unfold seB; rw [if_neg (by omega)]; omega]
          rw [h, show wdM 2 = 4 from rfl]
          by_cases hx : n < 2 + 4
          · rw [if_pos hx, tkV_none]
            exact rs_25xf n cap bb off z R (z 0 / 8 % 8 : Nat) (R % 2 : Nat) (R / 4 % 2 : Nat) w hn hcap hbb hc hz0 (by omega) Q2.out P3.out X0.out X2.out (by omega) (by omega) (by omega) (by omega) (by omega) (by omega) (2 ^ (z 1 / 64)) (z 1 / 8 % 8 : Nat) (R / 2 % 2 : Nat) W2.out Y3.out X1.out ES.out hz1 (by omega) (by omega) (by omega) (by omega) I4 ⟨by omega, by omega⟩
          · rw [if_neg hx, tkV_mem]
            exact rs_25xo n cap bb off z R (z 0 / 8 % 8 : Nat) (R % 2 : Nat) (R / 4 % 2 : Nat) w hn hcap hbb hc hz0 (by omega) Q2.out P3.out X0.out X2.out (by omega) (by omega) (by omega) (by omega) (by omega) (by omega) (2 ^ (z 1 / 64)) (z 1 / 8 % 8 : Nat) (R / 2 % 2 : Nat) W2.out Y3.out X1.out ES.out hz1 (by omega) (by omega) (by omega) (by omega) I4 (by omega) (dI z 2 4) (fun W h => num_4 bb off n cap 2 z hz (by omega) hcap W h)
        · have hw : (if z 1 % 8 = 5 ∧ z 0 / 64 = 0 then 4 else wdM (z 0 / 64)) = wdM (z 0 / 64) := if_neg (show ¬ (z 1 % 8 = 5 ∧ z 0 / 64 = 0) by omega)
          rw [hw, show seB (z 1 % 8 : Nat) (((R % 2 : Nat) : Int) * 8) (-1) (z 0 / 64 : Nat) = ((z 1 % 8 : Nat) : Int) + ((R % 2 : Nat) : Int) * 8 by unfold seB; rw [if_neg (by omega)]]
          rw [h, show wdM 2 = 4 from rfl]
          by_cases hx : n < 2 + 4
          · rw [if_pos hx, tkV_none]
            exact rs_2nxf n cap bb off z R (z 0 / 8 % 8 : Nat) (R % 2 : Nat) (R / 4 % 2 : Nat) w hn hcap hbb hc hz0 (by omega) Q2.out P3.out X0.out X2.out (by omega) (by omega) (by omega) (by omega) (by omega) (by omega) (2 ^ (z 1 / 64)) (z 1 / 8 % 8 : Nat) (R / 2 % 2 : Nat) (z 1 % 8 : Nat) Y2.out Y3.out X1.out ES.out hz1 (by omega) (by omega) (beq5 _ h5) (by omega) (by omega) (by omega) (by omega) I4 ⟨by omega, by omega⟩
          · rw [if_neg hx, tkV_mem]
            exact rs_2nxo n cap bb off z R (z 0 / 8 % 8 : Nat) (R % 2 : Nat) (R / 4 % 2 : Nat) w hn hcap hbb hc hz0 (by omega) Q2.out P3.out X0.out X2.out (by omega) (by omega) (by omega) (by omega) (by omega) (by omega) (2 ^ (z 1 / 64)) (z 1 / 8 % 8 : Nat) (R / 2 % 2 : Nat) (z 1 % 8 : Nat) Y2.out Y3.out X1.out ES.out hz1 (by omega) (by omega) (beq5 _ h5) (by omega) (by omega) (by omega) (by omega) I4 (by omega) (dI z 2 4) (fun W h => num_4 bb off n cap 2 z hz (by omega) hcap W h)
    · have I4 := bne4 (((z 1 / 8 % 8 : Nat) : Int) + ((R / 2 % 2 : Nat) : Int) * 8) true (by rw [decide_eq_false hi]; rfl)
      have sI : seI (z 1 / 8 % 8 : Nat) (((R / 2 % 2 : Nat) : Int) * 8) (-1) = ((z 1 / 8 % 8 : Nat) : Int) + ((R / 2 % 2 : Nat) : Int) * 8 := by unfold seI; rw [if_neg hi]
      have sS : seS (z 1 / 8 % 8 : Nat) (((R / 2 % 2 : Nat) : Int) * 8) 1 (z 1 / 64 : Nat) = 2 ^ (z 1 / 64) := by unfold seS; rw [if_neg hi]; rfl
      rw [sI, sS]
      rcases (show z 0 / 64 = 0 ∨ z 0 / 64 = 1 ∨ z 0 / 64 = 2 by omega) with h | h | h
      · by_cases h5 : z 1 % 8 = 5
        · have W2 : Hid (bits .and .u8 ((z 1 : Nat) : Int) 7 = 5) := Lib.hid (Y2.out.trans (by show ((z 1 % 8 : Nat) : Int) = 5; rw [h5]; rfl))
          have hw : (if z 1 % 8 = 5 ∧ z 0 / 64 = 0 then 4 else wdM (z 0 / 64)) = 4 := if_pos ⟨h5, h⟩
          rw [hw, show seB (z 1 % 8 : Nat) (((R % 2 : Nat) : Int) * 8) (-1) (z 0 / 64 : Nat) = -1 by unfold seB; rw [if_pos (by omega)]]
          by_cases hx : n < 2 + 4
          · rw [if_pos hx, tkV_none]
            exact rs_05if n cap bb off z R (z 0 / 8 % 8 : Nat) (R % 2 : Nat) (R / 4 % 2 : Nat) w hn hcap hbb hc hz0 (by omega) Q2.out P3.out X0.out X2.out (by omega) (by omega) (by omega) (by omega) (by omega) (by omega) (2 ^ (z 1 / 64)) (z 1 / 8 % 8 : Nat) (R / 2 % 2 : Nat) W2.out Y3.out X1.out ES.out hz1 (by omega) (by omega) (by omega) (by omega) I4 ⟨by omega, by omega⟩
          · rw [if_neg hx, tkV_mem]
            exact rs_05io n cap bb off z R (z 0 / 8 % 8 : Nat) (R % 2 : Nat) (R / 4 % 2 : Nat) w hn hcap hbb hc hz0 (by omega) Q2.out P3.out X0.out X2.out (by omega) (by omega) (by omega) (by omega) (by omega) (by omega) (2 ^ (z 1 / 64)) (z 1 / 8 % 8 : Nat) (R / 2 % 2 : Nat) W2.out Y3.out X1.out ES.out hz1 (by omega) (by omega) (by omega) (by omega) I4 (by omega) (dI z 2 4) (fun W h => num_4 bb off n cap 2 z hz (by omega) hcap W h)
        · have hw : (if z 1 % 8 = 5 ∧ z 0 / 64 = 0 then 4 else wdM (z 0 / 64)) = wdM (z 0 / 64) := if_neg (show ¬ (z 1 % 8 = 5 ∧ z 0 / 64 = 0) by omega)
          rw [hw, show seB (z 1 % 8 : Nat) (((R % 2 : Nat) : Int) * 8) (-1) (z 0 / 64 : Nat) = ((z 1 % 8 : Nat) : Int) + ((R % 2 : Nat) : Int) * 8 by unfold seB; rw [if_neg (by omega)]]
          rw [h, show wdM 0 = 0 from rfl]
          rw [if_neg (by omega), dI_nil, tkV_mem]
          exact rs_0nio n cap bb off z R (z 0 / 8 % 8 : Nat) (R % 2 : Nat) (R / 4 % 2 : Nat) w hn hcap hbb hc hz0 (by omega) Q2.out P3.out X0.out X2.out (by omega) (by omega) (by omega) (by omega) (by omega) (by omega) (2 ^ (z 1 / 64)) (z 1 / 8 % 8 : Nat) (R / 2 % 2 : Nat) (z 1 % 8 : Nat) Y2.out Y3.out X1.out ES.out hz1 (by omega) (by omega) (beq5 _ h5) (by omega) (by omega) (by omega) (by omega) I4 (by omega)
      · by_cases h5 : z 1 % 8 = 5
        · have W2 : Hid (bits .and .u8 ((z 1 : Nat) : Int) 7 = 5) := Lib.hid (Y2.out.trans (by show ((z 1 % 8 : Nat) : Int) = 5; rw [h5]; rfl))
          have hw : (if z 1 % 8 = 5 ∧ z 0 / 64 = 0 then 4 else wdM (z 0 / 64)) = wdM (z 0 / 64) := if_neg (show ¬ (z 1 % 8 = 5 ∧ z 0 / 64 = 0) by omega)
          rw [hw, show seB (z 1 % 8 : Nat) (((R % 2 : Nat) : Int) * 8) (-1) (z 0 / 64 : Nat) = 5 + ((R % 2 : Nat) : Int) * 8 by unfold seB; rw [if_neg (by omega)]; omega]
          rw [h, show wdM 1 = 1 from rfl]
          by_cases hx : n < 2 + 1
          · rw [if_pos hx, tkV_none]
            exact rs_15if n cap bb off z R (z 0 / 8 % 8 : Nat) (R % 2 : Nat) (R / 4 % 2 : Nat) w hn hcap hbb hc hz0 (by omega) Q2.out P3.out X0.out X2.out (by omega) (by omega) (by omega) (by omega) (by omega) (by omega) (2 ^ (z 1 / 64)) (z 1 / 8 % 8 : Nat) (R / 2 % 2 : Nat) W2.out Y3.out X1.out ES.out hz1 (by omega) (by omega) (by omega) (by omega) I4 ⟨by omega, by omega⟩
          · rw [if_neg hx, tkV_mem]
            exact rs_15io n cap bb off z R (z 0 / 8 % 8 : Nat) (R % 2 : Nat) (R / 4 % 2 : Nat) w hn hcap hbb hc hz0 (by omega) Q2.out P3.out X0.out X2.out (by omega) (by omega) (by omega) (by omega) (by omega) (by omega) (2 ^ (z 1 / 64)) (z 1 / 8 % 8 : Nat) (R / 2 % 2 : Nat) W2.out Y3.out X1.out ES.out hz1 (by omega) (by omega) (by omega) (by omega) I4 (by omega) (dI z 2 1) (fun W h => num_1 bb off n cap 2 z hz (by omega) hcap W h)
        · have hw : (if z 1 % 8 = 5 ∧ z 0 / 64 = 0 then 4 else wdM (z 0 / 64)) = wdM (z 0 / 64) := if_neg (show ¬ (z 1 % 8 = 5 ∧ z 0 / 64 = 0) by omega)
          rw [hw, show seB (z 1 % 8 : Nat) (((R % 2 : Nat) : Int) * 8) (-1) (z 0 / 64 : Nat) = ((z 1 % 8 : Nat) : Int) + ((R % 2 : Nat) : Int) * 8 by unfold seB; rw [if_neg (by omega)]]
          rw [h, show wdM 1 = 1 from rfl]
          by_cases hx : n < 2 + 1
          · rw [if_pos hx, tkV_none]
            exact rs_1nif n cap bb off z R (z 0 / 8 % 8 : Nat) (R % 2 : Nat) (R / 4 % 2 : Nat) w hn hcap hbb hc hz0 (by omega) Q2.out P3.out X0.out X2.out (by omega) (by omega) (by omega) (by omega) (by omega) (by omega) (2 ^ (z 1 / 64)) (z 1 / 8 % 8 : Nat) (R / 2 % 2 : Nat) (z 1 % 8 : Nat) Y2.out Y3.out X1.out ES.out hz1 (by omega) (by omega) (beq5 _ h5) (by omega) (by omega) (by omega) (by omega) I4 ⟨by omega, by omega⟩
          · rw [if_neg hx, tkV_mem]
            exact rs_1nio n cap bb off z R (z 0 / 8 % 8 : Nat) (R % 2 : Nat) (R / 4 % 2 : Nat) w hn hcap hbb hc hz0 (by omega) Q2.out P3.out X0.out X2.out (by omega) (by omega) (by omega) (by omega) (by omega) (by omega) (2 ^ (z 1 / 64)) (z 1 / 8 % 8 : Nat) (R / 2 % 2 : Nat) (z 1 % 8 : Nat) Y2.out Y3.out X1.out ES.out hz1 (by omega) (by omega) (beq5 _ h5) (by omega) (by omega) (by omega) (by omega) I4 (by omega) (dI z 2 1) (fun W h => num_1 bb off n cap 2 z hz (by omega) hcap W h)
      · by_cases h5 : z 1 % 8 = 5
        · have W2 : Hid (bits .and .u8 ((z 1 : Nat) : Int) 7 = 5) := Lib.hid (Y2.out.trans (by show ((z 1 % 8 : Nat) : Int) = 5; rw [h5]; rfl))
          have hw : (if z 1 % 8 = 5 ∧ z 0 / 64 = 0 then 4 else wdM (z 0 / 64)) = wdM (z 0 / 64) := if_neg (show ¬ (z 1 % 8 = 5 ∧ z 0 / 64 = 0) by omega)
          rw [hw, show seB (z 1 % 8 : Nat) (((R % 2 : Nat) : Int) * 8) (-1) (z 0 / 64 : Nat) = 5 + ((R % 2 : Nat) : Int) * 8 by unfold seB; rw [if_neg (by omega)]; omega]
          rw [h, show wdM 2 = 4 from rfl]
          by_cases hx : n < 2 + 4
          · rw [if_pos hx, tkV_none]
            exact rs_25if n cap bb off z R (z 0 / 8 % 8 : Nat) (R % 2 : Nat) (R / 4 % 2 : Nat) w hn hcap hbb hc hz0 (by omega) Q2.out P3.out X0.out X2.out (by omega) (by omega) (by omega) (by omega) (by omega) (by omega) (2 ^ (z 1 / 64)) (z 1 / 8 % 8 : Nat) (R / 2 % 2 : Nat) W2.out Y3.out X1.out ES.out hz1 (by omega) (by omega) (by omega) (by omega) I4 ⟨by omega, by omega⟩
          · rw [if_neg hx, tkV_mem]
            exact rs_25io n cap bb off z R (z 0 / 8 % 8 : Nat) (R % 2 : Nat) (R / 4 % 2 : Nat) w hn hcap hbb hc hz0 (by omega) Q2.out P3.out X0.out X2.out (by omega) (by omega) (by omega) (by omega) (by omega) (by omega) (2 ^ (z 1 / 64)) (z 1 / 8 % 8 : Nat) (R / 2 % 2 : Nat) W2.out Y3.out X1.out ES.out hz1 (by omega) (by omega) (by omega) (by omega) I4 (by omega) (dI z 2 4) (fun W h => num_4 bb off n cap 2 z hz (by omega) hcap W h)
        · have hw : (if z 1 % 8 = 5 ∧ z 0 / 64 = 0 then 4 else wdM (z 0 / 64)) = wdM (z 0 / 64) := if_neg (show ¬ (z 1 % 8 = 5 ∧ z 0 / 64 = 0) by omega)
          rw [hw, show seB (z 1 % 8 : Nat) (((R % 2 : Nat) : Int) * 8) (-1) (z 0 / 64 : Nat) = ((z 1 % 8 : Nat) : Int) + ((R % 2 : Nat) : Int) * 8 by unfold seB; rw [if_neg (by omega)]]
          rw [h, show wdM 2 = 4 from rfl]
          by_cases hx : n < 2 + 4
          · rw [if_pos hx, tkV_none]
            exact rs_2nif n cap bb off z R (z 0 / 8 % 8 : Nat) (R % 2 : Nat) (R / 4 % 2 : Nat) w hn hcap hbb hc hz0 (by omega) Q2.out P3.out X0.out X2.out (by omega) (by omega) (by omega) (by omega) (by omega) (by omega) (2 ^ (z 1 / 64)) (z 1 / 8 % 8 : Nat) (R / 2 % 2 : Nat) (z 1 % 8 : Nat) Y2.out Y3.out X1.out ES.out hz1 (by omega) (by omega) (beq5 _ h5) (by omega) (by omega) (by omega) (by omega) I4 ⟨by omega, by omega⟩
          · rw [if_neg hx, tkV_mem]
            exact rs_2nio n cap bb off z R (z 0 / 8 % 8 : Nat) (R % 2 : Nat) (R / 4 % 2 : Nat) w hn hcap hbb hc hz0 (by omega) Q2.out P3.out X0.out X2.out (by omega) (by omega) (by omega) (by omega) (by omega) (by omega) (2 ^ (z 1 / 64)) (z 1 / 8 % 8 : Nat) (R / 2 % 2 : Nat) (z 1 % 8 : Nat) Y2.out Y3.out X1.out ES.out hz1 (by omega) (by omega) (beq5 _ h5) (by omega) (by omega) (by omega) (by omega) I4 (by omega) (dI z 2 4) (fun W h => num_4 bb off n cap 2 z hz (by omega) hcap W h)
  by_cases hr : z 0 % 8 = 5 ∧ z 0 / 64 = 0
  · obtain ⟨h5, hM⟩ := hr
    have Q2 : Hid (bits .and .u8 ((z 0 : Nat) : Int) 7 = 5) := Lib.hid (P2.out.trans (by show ((z 0 % 8 : Nat) : Int) = 5; rw [h5]; rfl))
    have e0 : tkF n z R = if n < 5 then none else some ((z 0 / 8 % 8 : Nat) + gN R 2, memO (-1) (-1) 1 (dI z 1 4) true, 5) := by unfold tkF; rw [if_neg hn0, if_neg hM3, if_neg h4, if_pos ⟨h5, hM⟩]
    rw [e0]
    by_cases hx : n < 5
    · rw [if_pos hx, tkV_none]
      exact rs_ripf n cap bb off z R (z 0 / 8 % 8 : Nat) (R % 2 : Nat) (R / 4 % 2 : Nat) w hn hcap hbb hc hz0 (by omega) Q2.out P3.out X0.out X2.out (by omega) (by omega) (by omega) (by omega) (by omega) (by omega) hx
    · rw [if_neg hx, G2.out, tkV_mem]
      exact rs_ripo n cap bb off z R (z 0 / 8 % 8 : Nat) (R % 2 : Nat) (R / 4 % 2 : Nat) w hn hcap hbb hc hz0 (by omega) Q2.out P3.out X0.out X2.out (by omega) (by omega) (by omega) (by omega) (by omega) (by omega) (by omega) (dI z 1 4) (fun W h => num_4 bb off n cap 1 z hz (by omega) hcap W h)
  have e0 : tkF n z R = if n < 1 + wdM (z 0 / 64) then none else some ((z 0 / 8 % 8 : Nat) + gN R 2, memO ((z 0 % 8 : Nat) + gN R 0) (-1) 1 (dI z 1 (wdM (z 0 / 64))) false, 1 + wdM (z 0 / 64)) := by unfold tkF; rw [if_neg hn0, if_neg hM3, if_neg h4, if_neg hr]
  rw [e0, G0.out, G2.out]
  have l4 : ((z 0 % 8 : Nat) : Int) ≠ 4 := by omega
  rcases (show z 0 / 64 = 0 ∨ z 0 / 64 = 1 ∨ z 0 / 64 = 2 by omega) with h | h | h
  · have h5 : z 0 % 8 ≠ 5 := fun q => hr ⟨q, h⟩
    rw [h, show wdM 0 = 0 from rfl, dI_nil, if_neg (by omega), tkV_mem]
    exact rtake_b0 n cap bb off z R (z 0 % 8 : Nat) (z 0 / 8 % 8 : Nat) (R % 2 : Nat) (R / 4 % 2 : Nat) w hn hcap hbb hc hz0 (by omega) P2.out P3.out X0.out X2.out (by omega) (by omega) (by omega) (by omega) (by omega) (by omega) (by omega) (by omega) l4 (by omega)
  · rw [h, show wdM 1 = 1 from rfl]
    by_cases hx : n < 1 + 1
    · rw [if_pos hx, tkV_none]
      exact rtake_b1n n cap bb off z R (z 0 % 8 : Nat) (z 0 / 8 % 8 : Nat) (R % 2 : Nat) (R / 4 % 2 : Nat) w hn hcap hbb hc hz0 (by omega) P2.out P3.out X0.out X2.out (by omega) (by omega) (by omega) (by omega) (by omega) (by omega) (by omega) (by omega) l4 hx
    · rw [if_neg hx, tkV_mem]
      by_cases h5 : z 0 % 8 = 5
      · exact rtake_b1_5 n cap bb off z R (z 0 % 8 : Nat) (z 0 / 8 % 8 : Nat) (R % 2 : Nat) (R / 4 % 2 : Nat) w hn hcap hbb hc hz0 (by omega) P2.out P3.out X0.out X2.out (by omega) (by omega) (by omega) (by omega) (by omega) (by omega) (by omega) (by omega) l4 (by rw [h5]; rfl) (by omega) (dI z 1 1) (fun W h => num_1 bb off n cap 1 z hz (by omega) hcap W h)
      · exact rtake_b1 n cap bb off z R (z 0 % 8 : Nat) (z 0 / 8 % 8 : Nat) (R % 2 : Nat) (R / 4 % 2 : Nat) w hn hcap hbb hc hz0 (by omega) P2.out P3.out X0.out X2.out (by omega) (by omega) (by omega) (by omega) (by omega) (by omega) (by omega) (by omega) l4 (beq5 _ h5) (by omega) (dI z 1 1) (fun W h => num_1 bb off n cap 1 z hz (by omega) hcap W h)
  · rw [h, show wdM 2 = 4 from rfl]
    by_cases hx : n < 1 + 4
    · rw [if_pos hx, tkV_none]
      exact rtake_b2n n cap bb off z R (z 0 % 8 : Nat) (z 0 / 8 % 8 : Nat) (R % 2 : Nat) (R / 4 % 2 : Nat) w hn hcap hbb hc hz0 (by omega) P2.out P3.out X0.out X2.out (by omega) (by omega) (by omega) (by omega) (by omega) (by omega) (by omega) (by omega) l4 hx
    · rw [if_neg hx, tkV_mem]
      by_cases h5 : z 0 % 8 = 5
      · exact rtake_b2_5 n cap bb off z R (z 0 % 8 : Nat) (z 0 / 8 % 8 : Nat) (R % 2 : Nat) (R / 4 % 2 : Nat) w hn hcap hbb hc hz0 (by omega) P2.out P3.out X0.out X2.out (by omega) (by omega) (by omega) (by omega) (by omega) (by omega) (by omega) (by omega) l4 (by rw [h5]; rfl) (by omega) (dI z 1 4) (fun W h => num_4 bb off n cap 1 z hz (by omega) hcap W h)
      · exact rtake_b2 n cap bb off z R (z 0 % 8 : Nat) (z 0 / 8 % 8 : Nat) (R % 2 : Nat) (R / 4 % 2 : Nat) w hn hcap hbb hc hz0 (by omega) P2.out P3.out X0.out X2.out (by omega) (by omega) (by omega) (by omega) (by omega) (by omega) (by omega) (by omega) l4 (beq5 _ h5) (by omega) (dI z 1 4) (fun W h => num_4 bb off n cap 1 z hz (by omega) hcap W h)
end Go.Proofs.YtkpnafgmjcnniaaDoor
