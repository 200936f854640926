/- wakes of layer 15. -/
import Derived.Test.YtldicconopcipaaK
import Derived.Test.YtldicconopcipaaF
namespace Go.Proofs.Ytldicconopcipaa
open Go.RowKit Go.Shelf
set_option linter.unusedVariables false
theorem blF_lt (low high j : Nat) : blF low high j < 256 := by
  unfold blF; split <;> exact byN_lt _ _
theorem w35 : woN (blF 3 5) 0 = 3 := by decide +kernel
theorem w37 : woN (blF 3 7) 1 = 7 := by decide +kernel
theorem w90 : woN (blF 9 0) 0 = 9 := by decide +kernel
theorem w91 : woN (blF 9 0) 1 = 0 := by decide +kernel
theorem c9 : clL 3 (onesU 7 64) = 9 := by decide +kernel
theorem c0 : clH 3 (onesU 7 64) = 0 := by decide +kernel
theorem a3_one : a3.all (·.oneCell') = true := by rw [a3_bA]; exact bA_one _
theorem z16_one : z16.all (·.oneCell') = true := by rw [bA_zero]; exact bA_one _
theorem xor_a3 : bA (xF aF aF) = z16 := by
  rw [bA_zero]
  have h : ∀ i, i < 16 → xF aF aF i = 0 := by decide +kernel
  exact bA_congr h
theorem of_n9 : bA (ofF 1 nF) = n9 := by
  rw [n9_bA]
  refine bA_congr fun i _ => ?_
  unfold ofF nF
  by_cases h : i < 1
  · rw [if_pos h]
  · rw [if_neg h, if_neg (by omega)]
theorem prod_any (W : World) : Calls Try.prog 32 #[.agg (bN (blF 3 5)), .agg (bN (blF 3 7)), .int .u8 16] W fun e W' => e = .returned (.agg (bN (blF 9 0))) ∧ Below W.heap.size W W' := by
  have hC := fun W => clmul_any 3 7 (by unfold U; decide) (by unfold U; decide) W
  rw [c9, c0] at hC
  exact product_core (bN (blF 3 5)) (bN (blF 3 7)) (bN (blF 9 0)) (bA_size _) (bA_one _) (bA_size _) (bA_one _) (bA_size _) (bA_one _) 16 _ _ _ _ 9 0 false true
    (fun W => split_any _ (blF_lt 3 5) W) (fun W => split_any _ (blF_lt 3 7) W) (by decide +kernel) (by decide +kernel) 3 7
    (by show ((woN (blF 3 5) 0 : Nat) : Int) = 3; rw [w35]; rfl) (by show ((woN (blF 3 7) 1 : Nat) : Int) = 7; rw [w37]; rfl) hC (fun W => block_any 9 0 W) W
theorem wakes_any (w : World) : Calls Try.prog 8 #[] w fun e w' => e = .returned (.bool true) ∧ Below w.heap.size w w' := by
  have h4 := fun W => vwords_any (blF 9 0) (blF_lt 9 0) W
  rw [w90, w91] at h4
  have h5 := fun W => do_27 (bA aF) (bA aF) (bA (xF aF aF)) (bA_size _) (bA_one _) (bA_size _) (bA_one _) (bA_size _) (bA_one _) 0 (fun W => xor_any aF aF 0 W) W
  rw [xor_a3] at h5
  exact wakes_core (bN (blF 3 5)) (bN (blF 3 7)) (bN (blF 9 0)) (fun W => block_any 3 5 W) (fun W => block_any 3 7 W)
    (fun W => do_32 _ _ _ (bA_size _) (bA_one _) (bA_size _) (bA_one _) (bA_size _) (bA_one _) 16 prod_any W) h4 h5
    (fun W => do_26 #[.int .u8 0, .int .u8 0, .int .u8 0, .int .u8 0, .int .u8 0, .int .u8 0, .int .u8 0, .int .u8 0, .int .u8 0, .int .u8 0, .int .u8 0, .int .u8 0, .int .u8 0, .int .u8 0, .int .u8 0, .int .u8 0] a3 a3 rfl z16_one rfl a3_one rfl a3_one 0 (fun W => mv_any #[.int .u8 0, .int .u8 0, .int .u8 0, .int .u8 0, .int .u8 0, .int .u8 0, .int .u8 0, .int .u8 0, .int .u8 0, .int .u8 0, .int .u8 0, .int .u8 0, .int .u8 0, .int .u8 0, .int .u8 0, .int .u8 0] a3 rfl z16_one rfl a3_one 0 W) W)
    (fun W b hc => by
      have := of_any (some ⟨b, 0, none⟩) 1 1 nF W (fun _ => ⟨b, 0, rfl, fun j hj => by have e : j = 0 := (by omega); subst e; exact hc⟩)
      rw [of_n9] at this
      exact this) w
end Go.Proofs.Ytldicconopcipaa
