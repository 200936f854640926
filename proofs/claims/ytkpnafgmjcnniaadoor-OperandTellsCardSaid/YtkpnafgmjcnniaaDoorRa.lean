/- The document's own Put: one contract. -/
import Derived.Test.YtkpnafgmjcnniaaDoorPa
import Derived.Test.YtkpnafgmjcnniaaDoorFm
import Derived.Test.YtkpnafgmjcnniaaDoorRqA
namespace Go.Proofs.YtkpnafgmjcnniaaDoor
open Go.RowKit
set_option linter.unusedVariables false
set_option linter.unusedSimpArgs false
theorem fst_fin : ∀ (a c : Fin 8), bits .or .u8 (bits .or .u8 0 (((a.val : Nat) : Int) * 8)) ((c.val : Nat) : Int) = ((64 * 0 + 8 * a.val + c.val : Nat) : Int) ∧ bits .or .u8 (bits .or .u8 64 (((a.val : Nat) : Int) * 8)) ((c.val : Nat) : Int) = ((64 * 1 + 8 * a.val + c.val : Nat) : Int) ∧ bits .or .u8 (128 + ((a.val : Nat) : Int) * 8) ((c.val : Nat) : Int) = ((64 * 2 + 8 * a.val + c.val : Nat) : Int) := by decide +kernel
theorem two_T (s : Int) (h : s = 1 ∨ s = 2 ∨ s = 4 ∨ s = 8) : topN s ≤ 3 ∧ (∀ k : Nat, k < topN s → wrap64 (2 ^ k) < s) ∧ s ≤ wrap64 (2 ^ topN s) := by
  rcases h with rfl | rfl | rfl | rfl
  · exact ⟨by decide +kernel, fun k h => by exact absurd h (by simp [topN]), by decide +kernel⟩
  · exact ⟨by decide +kernel, fun k h => by
      have : k < 1 := h
      obtain rfl : k = 0 := by omega
      decide +kernel, by decide +kernel⟩
  · exact ⟨by decide +kernel, fun k h => by
      have : k < 2 := h
      match k, this with
      | 0, _ => decide +kernel
      | 1, _ => decide +kernel, by decide +kernel⟩
  · exact ⟨by decide +kernel, fun k h => by
      have : k < 3 := h
      match k, this with
      | 0, _ => decide +kernel
      | 1, _ => decide +kernel
      | 2, _ => decide +kernel, by decide +kernel⟩
theorem fin_b {w : World} {e : Ending} {w' : World} (Q B : Nat) (s d X : Int) (M W : Nat) (hQ : Q < 16) (hB : B < 16) (h4 : B % 8 ≠ 4) (h : PutR w (1 + W) (catF 1 (fun _ => X) (dF d)) (bits .or .u8 (((Q / 8 : Nat) : Int) * 4) ((B / 8 : Nat) : Int)) e w')
    (hX : X = ((64 * M + 8 * (Q % 8) + B % 8 : Nat) : Int)) (hM : puM (memO B (-1) s d false) = M) (hW : puW (memO B (-1) s d false) = W) : PutR w (puN (memO B (-1) s d false)) (fun j => (puZ Q (memO B (-1) s d false) j : Nat)) (puR Q (memO B (-1) s d false) : Nat) e w' := by
  have hb : ¬ ((B : Int) = -1) := by omega
  have q3 := (or_rex ⟨Q / 8, by omega⟩ ⟨B / 8, by omega⟩ ⟨0, by omega⟩).2.1
  dsimp only at q3
  have e1 : puR Q (memO B (-1) s d false) = 4 * (Q / 8) + B / 8 := by simp [puR, memO, y8N, x8N, hb]
  have e2 : puN (memO B (-1) s d false) = 1 + puW (memO B (-1) s d false) := by simp [puN, memO, sibB, x7N, hb, h4]
  have e3 : puZ Q (memO B (-1) s d false) = catN 1 (fun j => 64 * puM (memO B (-1) s d false) + 8 * (Q % 8) + B % 8) (byN (uN d)) := by simp [puZ, memO, sibB, x7N, y7N, hb, h4]
  rw [e1, e2, e3, hM, hW, ← q3]
  exact h.congr fun j _ => catF_N 1 _ _ _ _ (fun j => hX) (fun j => rfl) j
theorem fin_b4 {w : World} {e : Ending} {w' : World} (Q B : Nat) (d X Y : Int) (M W : Nat) (hQ : Q < 16) (hB : B < 16) (h4 : B % 8 = 4) (h : PutR w (2 + W) (catF 2 (twoF X Y) (dF d)) (bits .or .u8 (((Q / 8 : Nat) : Int) * 4) ((B / 8 : Nat) : Int)) e w')
    (hX : X = ((64 * M + 8 * (Q % 8) + 4 : Nat) : Int)) (hY : Y = ((64 * 0 + 8 * 4 + B % 8 : Nat) : Int)) (hM : puM (memO B (-1) 1 d false) = M) (hW : puW (memO B (-1) 1 d false) = W) : PutR w (puN (memO B (-1) 1 d false)) (fun j => (puZ Q (memO B (-1) 1 d false) j : Nat)) (puR Q (memO B (-1) 1 d false) : Nat) e w' := by
  have hb : ¬ ((B : Int) = -1) := by omega
  have q3 := (or_rex ⟨Q / 8, by omega⟩ ⟨B / 8, by omega⟩ ⟨0, by omega⟩).2.1
  dsimp only at q3
  have e1 : puR Q (memO B (-1) 1 d false) = 4 * (Q / 8) + B / 8 := by simp [puR, memO, y8N, x8N, hb]
  have e2 : puN (memO B (-1) 1 d false) = 2 + puW (memO B (-1) 1 d false) := by simp [puN, memO, sibB, x7N, hb, h4]
  have e3 : puZ Q (memO B (-1) 1 d false) = catN 2 (fun j => if j = 0 then 64 * puM (memO B (-1) 1 d false) + 8 * (Q % 8) + 4 else 64 * topN 1 + 8 * 4 + B % 8) (byN (uN d)) := by simp [puZ, memO, sibB, x7N, y7N, hb, h4]
  rw [e1, e2, e3, hM, hW, ← q3]
  refine h.congr fun j _ => catF_N 2 _ _ _ _ (fun j => ?_) (fun j => rfl) j
  rw [← twoF_N, ← hX]
  rw [show (64 * topN 1 + 8 * 4 + B % 8) = 64 * 0 + 8 * 4 + B % 8 from rfl, ← hY]
theorem fin_bi {w : World} {e : Ending} {w' : World} (Q B I : Nat) (s d X Y : Int) (M W : Nat) (hQ : Q < 16) (hB : B < 16) (hI : I < 16) (h : PutR w (2 + W) (catF 2 (twoF X Y) (dF d)) (bits .or .u8 (bits .or .u8 (((Q / 8 : Nat) : Int) * 4) ((B / 8 : Nat) : Int)) (((I / 8 : Nat) : Int) * 2)) e w')
    (hX : X = ((64 * M + 8 * (Q % 8) + 4 : Nat) : Int)) (hY : Y = ((64 * topN s + 8 * (I % 8) + B % 8 : Nat) : Int)) (hM : puM (memO B I s d false) = M) (hW : puW (memO B I s d false) = W) : PutR w (puN (memO B I s d false)) (fun j => (puZ Q (memO B I s d false) j : Nat)) (puR Q (memO B I s d false) : Nat) e w' := by
  have hb : ¬ ((B : Int) = -1) := by omega
  have hi : ¬ ((I : Int) = -1) := by omega
  have q3 := (or_rex ⟨Q / 8, by omega⟩ ⟨B / 8, by omega⟩ ⟨I / 8, by omega⟩).1
  dsimp only at q3
  have e1 : puR Q (memO B I s d false) = 4 * (Q / 8) + 2 * (I / 8) + B / 8 := by simp [puR, memO, y8N, x8N, hb, hi]
  have e2 : puN (memO B I s d false) = 2 + puW (memO B I s d false) := by simp [puN, memO, sibB, hi]
  have e3 : puZ Q (memO B I s d false) = catN 2 (fun j => if j = 0 then 64 * puM (memO B I s d false) + 8 * (Q % 8) + 4 else 64 * topN s + 8 * (I % 8) + B % 8) (byN (uN d)) := by simp [puZ, memO, sibB, x7N, y7N, hb, hi]
  rw [e1, e2, e3, hM, hW, ← q3]
  refine h.congr fun j _ => catF_N 2 _ _ _ _ (fun j => ?_) (fun j => rfl) j
  rw [← twoF_N, ← hX, ← hY]
/-- Which displacement it is. -/
theorem disp_cases (B : Nat) (i s d : Int) (hd0 : -9223372036854775808 ≤ d) (hd1 : d ≤ 9223372036854775807) :
    (d = 0 ∧ B % 8 ≠ 5 ∧ puM (memO B i s d false) = 0 ∧ puW (memO B i s d false) = 0) ∨ (d = 0 ∧ B % 8 = 5 ∧ puM (memO B i s d false) = 1 ∧ puW (memO B i s d false) = 1) ∨ (d ≠ 0 ∧ -128 ≤ d ∧ d < 128 ∧ puM (memO B i s d false) = 1 ∧ puW (memO B i s d false) = 1)
      ∨ (d < -128 ∧ puM (memO B i s d false) = 2 ∧ puW (memO B i s d false) = 4) ∨ (128 ≤ d ∧ puM (memO B i s d false) = 2 ∧ puW (memO B i s d false) = 4) := by
  have hb : ¬ (memO B i s d false).b = -1 := by show ¬ ((B : Int) = -1); omega
  have hf := fB_one d hd0 hd1
  have hsh : short0 (memO B i s d false) = (decide (d = 0) && !decide (B % 8 = 5)) := by unfold short0 memO; by_cases h : B % 8 = 5 <;> simp [h]
  unfold puM puW
  rw [if_neg hb, if_neg hb, hsh, show (memO B i s d false).d = d from rfl, hf]
  by_cases h0 : d = 0
  · subst h0
    by_cases h5 : B % 8 = 5
    · refine .inr (.inl ⟨rfl, h5, ?_, ?_⟩) <;> simp [h5]
    · refine .inl ⟨rfl, h5, ?_, ?_⟩ <;> simp [h5]
  · by_cases h1 : d < -128
    · have : ¬ (-128 ≤ d ∧ d ≤ 127) := by omega
      refine .inr (.inr (.inr (.inl ⟨h1, ?_, ?_⟩))) <;> simp [h0, this]
    · by_cases h2 : 128 ≤ d
      · have : ¬ (-128 ≤ d ∧ d ≤ 127) := by omega
        refine .inr (.inr (.inr (.inr ⟨h2, ?_, ?_⟩))) <;> simp [h0, this]
      · have : -128 ≤ d ∧ d ≤ 127 := by omega
        refine .inr (.inr (.inl ⟨h0, by omega, by omega, ?_, ?_⟩)) <;> simp [h0, this]
theorem rputc_b (Q B : Nat) (s d : Int) (w : World) (hr : rrB 2 0 B (-1) s d false 0 = true) (hQ : Q < 16) (hB : B < 16) (h4 : B % 8 ≠ 4) (hd0 : -9223372036854775808 ≤ d) (hd1 : d ≤ 9223372036854775807) :
    Calls Tryd.prog 16 #[.int .i64 Q, ov 2 0 B (-1) s d false 0] w fun e w' => PutR w (puN (memO B (-1) s d false)) (fun j => (puZ Q (memO B (-1) s d false) j : Nat)) (puR Q (memO B (-1) s d false) : Nat) e w' := by
  have A7 := Lib.hid (and7 ⟨Q, hQ⟩)
  have C7 := Lib.hid (and7 ⟨B, hB⟩)
  have x4 : (((B % 8 : Nat) : Int) == 4) = false := by simp; omega
  have x4b : (((B % 8 : Nat) : Int) != 4) = true := by simp; omega
  have q1 := fst_fin ⟨Q % 8, by omega⟩ ⟨B % 8, by omega⟩
  rcases disp_cases B (-1) s d hd0 hd1 with ⟨rfl, h5, hM, hW⟩ | ⟨rfl, h5, hM, hW⟩ | ⟨z0, z1, z2, hM, hW⟩ | ⟨z0, hM, hW⟩ | ⟨z0, hM, hW⟩
  · refine (rput_b_z Q 0 (Q % 8 : Nat) (Q / 8 : Nat) B (B % 8 : Nat) (B / 8 : Nat) s w hr (by omega) (by omega) A7.out (by omega) (by omega) (by omega) (by omega) (by omega) (by omega) (by omega) C7.out (by omega) (by omega) (by omega) (by omega) (by omega) x4 x4b rfl (by simp; omega) (by simp; omega)).mono fun e w' h => ?_
    exact fin_b Q B s 0 _ 0 0 hQ hB h4 h q1.1 hM hW
  · refine (rput_b_y Q 0 (Q % 8 : Nat) (Q / 8 : Nat) B (B % 8 : Nat) (B / 8 : Nat) s w hr (by omega) (by omega) A7.out (by omega) (by omega) (by omega) (by omega) (by omega) (by omega) (by omega) C7.out (by omega) (by omega) (by omega) (by omega) (by omega) x4 x4b rfl (by simp; omega) (by simp; omega)).mono fun e w' h => ?_
    exact fin_b Q B s 0 _ 1 1 hQ hB h4 h q1.2.1 hM hW
  · refine (rput_b_s Q d (Q % 8 : Nat) (Q / 8 : Nat) B (B % 8 : Nat) (B / 8 : Nat) s w hr (by omega) (by omega) A7.out (by omega) (by omega) (by omega) (by omega) (by omega) (by omega) (by omega) C7.out (by omega) (by omega) (by omega) (by omega) (by omega) x4 x4b z0 z1 z2).mono fun e w' h => ?_
    exact fin_b Q B s d _ 1 1 hQ hB h4 h q1.2.1 hM hW
  · refine (rput_b_l Q d (Q % 8 : Nat) (Q / 8 : Nat) B (B % 8 : Nat) (B / 8 : Nat) s w hr (by omega) (by omega) A7.out (by omega) (by omega) (by omega) (by omega) (by omega) (by omega) (by omega) C7.out (by omega) (by omega) (by omega) (by omega) (by omega) x4 x4b z0).mono fun e w' h => ?_
    exact fin_b Q B s d _ 2 4 hQ hB h4 h q1.2.2 hM hW
  · refine (rput_b_g Q d (Q % 8 : Nat) (Q / 8 : Nat) B (B % 8 : Nat) (B / 8 : Nat) s w hr (by omega) (by omega) A7.out (by omega) (by omega) (by omega) (by omega) (by omega) (by omega) (by omega) C7.out (by omega) (by omega) (by omega) (by omega) (by omega) x4 x4b z0).mono fun e w' h => ?_
    exact fin_b Q B s d _ 2 4 hQ hB h4 h q1.2.2 hM hW
theorem rputc_b4 (Q B : Nat) (d : Int) (w : World) (hr : rrB 2 0 B (-1) 1 d false 0 = true) (hQ : Q < 16) (hB : B < 16) (h4 : B % 8 = 4) (hd0 : -9223372036854775808 ≤ d) (hd1 : d ≤ 9223372036854775807) :
    Calls Tryd.prog 16 #[.int .i64 Q, ov 2 0 B (-1) 1 d false 0] w fun e w' => PutR w (puN (memO B (-1) 1 d false)) (fun j => (puZ Q (memO B (-1) 1 d false) j : Nat)) (puR Q (memO B (-1) 1 d false) : Nat) e w' := by
  have A7 := Lib.hid (and7 ⟨Q, hQ⟩)
  have C7 := Lib.hid (and7 ⟨B, hB⟩)
  have q2 := or_second ⟨0, by omega⟩ ⟨4, by omega⟩ ⟨B % 8, by omega⟩
  have x4 : (((B % 8 : Nat) : Int) == 4) = true := by rw [h4]; rfl
  have x4b : (((B % 8 : Nat) : Int) != 4) = false := by rw [h4]; rfl
  have q1 := fst_fin ⟨Q % 8, by omega⟩ ⟨4, by omega⟩
  rcases disp_cases B (-1) 1 d hd0 hd1 with ⟨rfl, h5, hM, hW⟩ | ⟨rfl, h5, hM, hW⟩ | ⟨z0, z1, z2, hM, hW⟩ | ⟨z0, hM, hW⟩ | ⟨z0, hM, hW⟩
  · refine (rput_b4_z Q 0 (Q % 8 : Nat) (Q / 8 : Nat) B (B % 8 : Nat) (B / 8 : Nat) 1 w hr (by omega) (by omega) A7.out (by omega) (by omega) (by omega) (by omega) (by omega) (by omega) (by omega) C7.out (by omega) (by omega) (by omega) (by omega) (by omega) x4 x4b rfl (by simp; omega) (by simp; omega)).mono fun e w' h => ?_
    exact fin_b4 Q B 0 _ _ 0 0 hQ hB h4 h q1.1 q2 hM hW
  · refine (rput_b4_y Q 0 (Q % 8 : Nat) (Q / 8 : Nat) B (B % 8 : Nat) (B / 8 : Nat) 1 w hr (by omega) (by omega) A7.out (by omega) (by omega) (by omega) (by omega) (by omega) (by omega) (by omega) C7.out (by omega) (by omega) (by omega) (by omega) (by omega) x4 x4b rfl (by simp; omega) (by simp; omega)).mono fun e w' h => ?_
    exact fin_b4 Q B 0 _ _ 1 1 hQ hB h4 h q1.2.1 q2 hM hW
  · refine (rput_b4_s Q d (Q % 8 : Nat) (Q / 8 : Nat) B (B % 8 : Nat) (B / 8 : Nat) 1 w hr (by omega) (by omega) A7.out (by omega) (by omega) (by omega) (by omega) (by omega) (by omega) (by omega) C7.out (by omega) (by omega) (by omega) (by omega) (by omega) x4 x4b z0 z1 z2).mono fun e w' h => ?_
    exact fin_b4 Q B d _ _ 1 1 hQ hB h4 h q1.2.1 q2 hM hW
  · refine (rput_b4_l Q d (Q % 8 : Nat) (Q / 8 : Nat) B (B % 8 : Nat) (B / 8 : Nat) 1 w hr (by omega) (by omega) A7.out (by omega) (by omega) (by omega) (by omega) (by omega) (by omega) (by omega) C7.out (by omega) (by omega) (by omega) (by omega) (by omega) x4 x4b z0).mono fun e w' h => ?_
    exact fin_b4 Q B d _ _ 2 4 hQ hB h4 h q1.2.2 q2 hM hW
  · refine (rput_b4_g Q d (Q % 8 : Nat) (Q / 8 : Nat) B (B % 8 : Nat) (B / 8 : Nat) 1 w hr (by omega) (by omega) A7.out (by omega) (by omega) (by omega) (by omega) (by omega) (by omega) (by omega) C7.out (by omega) (by omega) (by omega) (by omega) (by omega) x4 x4b z0).mono fun e w' h => ?_
    exact fin_b4 Q B d _ _ 2 4 hQ hB h4 h q1.2.2 q2 hM hW
theorem rputc_bi (Q B I : Nat) (s d : Int) (w : World) (hr : rrB 2 0 B I s d false 0 = true) (hQ : Q < 16) (hB : B < 16) (hI : I < 16) (hs : s = 1 ∨ s = 2 ∨ s = 4 ∨ s = 8) (hd0 : -9223372036854775808 ≤ d) (hd1 : d ≤ 9223372036854775807) :
    Calls Tryd.prog 16 #[.int .i64 Q, ov 2 0 B I s d false 0] w fun e w' => PutR w (puN (memO B I s d false)) (fun j => (puZ Q (memO B I s d false) j : Nat)) (puR Q (memO B I s d false) : Nat) e w' := by
  have A7 := Lib.hid (and7 ⟨Q, hQ⟩)
  have C7 := Lib.hid (and7 ⟨B, hB⟩)
  have K7 := Lib.hid (and7 ⟨I, hI⟩)
  obtain ⟨t3, hT⟩ := two_T s hs
  have ht := topN_lt s
  have q2 := or_second ⟨topN s, ht⟩ ⟨I % 8, by omega⟩ ⟨B % 8, by omega⟩
  have q1 := fst_fin ⟨Q % 8, by omega⟩ ⟨4, by omega⟩
  rcases disp_cases B I s d hd0 hd1 with ⟨rfl, h5, hM, hW⟩ | ⟨rfl, h5, hM, hW⟩ | ⟨z0, z1, z2, hM, hW⟩ | ⟨z0, hM, hW⟩ | ⟨z0, hM, hW⟩
  · refine (rput_bi_z Q 0 (Q % 8 : Nat) (Q / 8 : Nat) B (B % 8 : Nat) (B / 8 : Nat) I (I % 8 : Nat) (I / 8 : Nat) s w hr (by omega) (by omega) A7.out (by omega) (by omega) (by omega) (by omega) (by omega) (by omega) (by omega) C7.out (by omega) (by omega) (by omega) (by omega) (by omega) (topN s) t3 hT (by omega) (by omega) K7.out (by omega) (by omega) (by omega) (by omega) (by omega) rfl (by simp; omega) (by simp; omega)).mono fun e w' h => ?_
    exact fin_bi Q B I s 0 _ _ 0 0 hQ hB hI h q1.1 q2 hM hW
  · refine (rput_bi_y Q 0 (Q % 8 : Nat) (Q / 8 : Nat) B (B % 8 : Nat) (B / 8 : Nat) I (I % 8 : Nat) (I / 8 : Nat) s w hr (by omega) (by omega) A7.out (by omega) (by omega) (by omega) (by omega) (by omega) (by omega) (by omega) C7.out (by omega) (by omega) (by omega) (by omega) (by omega) (topN s) t3 hT (by omega) (by omega) K7.out (by omega) (by omega) (by omega) (by omega) (by omega) rfl (by simp; omega) (by simp; omega)).mono fun e w' h => ?_
    exact fin_bi Q B I s 0 _ _ 1 1 hQ hB hI h q1.2.1 q2 hM hW
  · refine (rput_bi_s Q d (Q % 8 : Nat) (Q / 8 : Nat) B (B % 8 : Nat) (B / 8 : Nat) I (I % 8 : Nat) (I / 8 : Nat) s w hr (by omega) (by omega) A7.out (by omega) (by omega) (by omega) (by omega) (by omega) (by omega) (by omega) C7.out (by omega) (by omega) (by omega) (by omega) (by omega) (topN s) t3 hT (by omega) (by omega) K7.out (by omega) (by omega) (by omega) (by omega) (by omega) z0 z1 z2).mono fun e w' h => ?_
    exact fin_bi Q B I s d _ _ 1 1 hQ hB hI h q1.2.1 q2 hM hW
  · refine (rput_bi_l Q d (Q % 8 : Nat) (Q / 8 : Nat) B (B % 8 : Nat) (B / 8 : Nat) I (I % 8 : Nat) (I / 8 : Nat) s w hr (by omega) (by omega) A7.out (by omega) (by omega) (by omega) (by omega) (by omega) (by omega) (by omega) C7.out (by omega) (by omega) (by omega) (by omega) (by omega) (topN s) t3 hT (by omega) (by omega) K7.out (by omega) (by omega) (by omega) (by omega) (by omega) z0).mono fun e w' h => ?_
    exact fin_bi Q B I s d _ _ 2 4 hQ hB hI h q1.2.2 q2 hM hW
  · refine (rput_bi_g Q d (Q % 8 : Nat) (Q / 8 : Nat) B (B % 8 : Nat) (B / 8 : Nat) I (I % 8 : Nat) (I / 8 : Nat) s w hr (by omega) (by omega) A7.out (by omega) (by omega) (by omega) (by omega) (by omega) (by omega) (by omega) C7.out (by omega) (by omega) (by omega) (by omega) (by omega) (topN s) t3 hT (by omega) (by omega) K7.out (by omega) (by omega) (by omega) (by omega) (by omega) z0).mono fun e w' h => ?_
    exact fin_bi Q B I s d _ _ 2 4 hQ hB hI h q1.2.2 q2 hM hW
theorem rput_any (Q : Nat) (hQ : Q < 16) (o : Opd) (hok : o.ok = true) (hd0 : -9223372036854775808 ≤ o.d) (hd1 : o.d ≤ 9223372036854775807) (w : World) :
    Calls Tryd.prog 16 #[.int .i64 Q, o.v] w fun e w' => PutR w (puN o) (fun j => (puZ Q o j : Nat)) (puR Q o : Nat) e w' := by
  have A7 := Lib.hid (and7 ⟨Q, hQ⟩)
  have hr0 : rrB o.k o.r o.b o.i o.s o.d o.p o.m = true := (rrB_eq _ _ _ _ _ _ _ _ hd0 hd1).trans hok
  by_cases hk : o.k = 1
  · obtain ⟨ho, h0, h1⟩ := ok_reg hok hk
    generalize o.r = r at *
    subst ho
    obtain ⟨R, rfl⟩ := Int.eq_ofNat_of_zero_le h0
    have b7 := Lib.hid (and7 ⟨R, by omega⟩)
    refine (rput_reg Q R (Q % 8 : Nat) (Q / 8 : Nat) (R % 8 : Nat) (R / 8 : Nat) w hr0 (by omega) (by omega) A7.out (by omega) (by omega) (by omega) (by omega) (by omega) h0 h1 b7.out (by omega) (by omega) (by omega) (by omega) (by omega)).mono fun e w' h => ?_
    have q1 := (or_first0 ⟨Q % 8, by omega⟩ ⟨R % 8, by omega⟩).2.2
    have q2 := (or_rex ⟨Q / 8, by omega⟩ ⟨R / 8, by omega⟩ ⟨0, by omega⟩).2.1
    dsimp only at q1 q2
    rw [q1, q2] at h
    exact h
  · obtain ⟨ho, hf, hp⟩ := ok_mem hok hk
    generalize o.b = b at *
    generalize o.i = i at *
    generalize o.s = s at *
    generalize o.d = d at *
    generalize o.p = p at *
    subst ho
    have hr : rrB 2 0 b i s d p 0 = true := hr0
    cases p
    · obtain ⟨hb0, hb1, hi0, hi1, hi4, hs⟩ := ok_parts hp
      by_cases hb : b = -1
      · subst hb
        by_cases hi : i = -1
        · subst hi
          have hs1 : s = 1 := by omega
          subst hs1
          refine (rput_0 Q d (Q % 8 : Nat) (Q / 8 : Nat) 1 w hr (by omega) (by omega) A7.out (by omega) (by omega) (by omega) (by omega) (by omega)).mono fun e w' h => ?_
          have q1 := (fst_fin ⟨Q % 8, by omega⟩ ⟨4, by omega⟩).1
          have q2 := or_second ⟨0, by omega⟩ ⟨4, by omega⟩ ⟨5, by omega⟩
          have e1 : puR Q (memO (-1) (-1) 1 d false) = 4 * (Q / 8) := by simp [puR, memO, y8N, x8N]
          have e2 : puN (memO (-1) (-1) 1 d false) = 2 + 4 := by simp [puN, memO, sibB, puW]
          have e3 : puZ Q (memO (-1) (-1) 1 d false) = catN 2 (fun j => if j = 0 then 64 * 0 + 8 * (Q % 8) + 4 else 64 * 0 + 8 * 4 + 5) (byN (uN d)) := by simp [puZ, memO, sibB, puM, x7N, y7N, topN]
          have e4 : (((4 * (Q / 8) : Nat)) : Int) = ((Q / 8 : Nat) : Int) * 4 := by omega
          rw [e1, e2, e3, e4]
          refine h.congr fun j _ => catF_N 2 _ _ _ _ (fun j => ?_) (fun j => rfl) j
          rw [← twoF_N]
          exact (congrArg (fun x => twoF x _ j) q1).trans (congrArg (fun x => twoF _ x j) q2)
        · have hi0' : 0 ≤ i := by omega
          obtain ⟨I, rfl⟩ := Int.eq_ofNat_of_zero_le hi0'
          have c7 := Lib.hid (and7 ⟨I, by omega⟩)
          obtain ⟨t3, hT⟩ := two_T s (by omega)
          have ht := topN_lt s
          refine (rput_i Q d (Q % 8 : Nat) (Q / 8 : Nat) I (I % 8 : Nat) (I / 8 : Nat) s w hr (by omega) (by omega) A7.out (by omega) (by omega) (by omega) (by omega) (by omega) (topN s) t3 hT (by omega) (by omega) c7.out (by omega) (by omega) (by omega) (by omega) (by omega)).mono fun e w' h => ?_
          have q1 := (fst_fin ⟨Q % 8, by omega⟩ ⟨4, by omega⟩).1
          have q2 := or_second ⟨topN s, ht⟩ ⟨I % 8, by omega⟩ ⟨5, by omega⟩
          have q3 := (or_rex ⟨Q / 8, by omega⟩ ⟨0, by omega⟩ ⟨I / 8, by omega⟩).2.2
          dsimp only at q3
          have e1 : puR Q (memO (-1) I s d false) = 4 * (Q / 8) + 2 * (I / 8) := by simp [puR, memO, y8N, x8N, hi]
          have e2 : puN (memO (-1) I s d false) = 2 + 4 := by simp [puN, memO, sibB, puW]
          have e3 : puZ Q (memO (-1) I s d false) = catN 2 (fun j => if j = 0 then 64 * 0 + 8 * (Q % 8) + 4 else 64 * topN s + 8 * (I % 8) + 5) (byN (uN d)) := by simp [puZ, memO, sibB, puM, x7N, y7N, hi]
          rw [e1, e2, e3, ← q3]
          refine h.congr fun j _ => catF_N 2 _ _ _ _ (fun j => ?_) (fun j => rfl) j
          rw [← twoF_N]
          exact (congrArg (fun x => twoF x _ j) q1).trans (congrArg (fun x => twoF _ x j) q2)
      · have hb0' : 0 ≤ b := by omega
        obtain ⟨B, rfl⟩ := Int.eq_ofNat_of_zero_le hb0'
        by_cases hi : i = -1
        · subst hi
          by_cases h4 : B % 8 = 4
          · have hs1 : s = 1 := by omega
            subst hs1
            exact rputc_b4 Q B d w hr hQ (by omega) h4 hd0 hd1
          · exact rputc_b Q B s d w hr hQ (by omega) h4 hd0 hd1
        · have hi0' : 0 ≤ i := by omega
          obtain ⟨I, rfl⟩ := Int.eq_ofNat_of_zero_le hi0'
          exact rputc_bi Q B I s d w hr hQ (by omega) (by omega) (by omega) hd0 hd1
    · obtain ⟨rfl, rfl, rfl⟩ := ok_rip hp
      refine (rput_rip Q d (Q % 8 : Nat) (Q / 8 : Nat) w hr (by omega) (by omega) A7.out (by omega) (by omega) (by omega) (by omega) (by omega)).mono fun e w' h => ?_
      have q1 := (or_first0 ⟨Q % 8, by omega⟩ ⟨5, by omega⟩).2.1
      dsimp only at q1
      have e3 : puZ Q (memO (-1) (-1) 1 d true) = catN 1 (fun j => 8 * (Q % 8) + 5) (byN (uN d)) := by simp [puZ, memO]
      have e1 : puR Q (memO (-1) (-1) 1 d true) = 4 * (Q / 8) := by simp [puR, memO]
      have e4 : (((4 * (Q / 8) : Nat)) : Int) = ((Q / 8 : Nat) : Int) * 4 := by omega
      rw [e1, e3, e4]
      refine PutR.congr (n := 1 + 4) h fun j _ => catF_N 1 _ _ _ _ (fun j => ?_) (fun j => rfl) j
      exact q1
end Go.Proofs.YtkpnafgmjcnniaaDoor
