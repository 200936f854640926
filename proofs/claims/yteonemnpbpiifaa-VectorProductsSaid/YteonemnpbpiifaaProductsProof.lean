/- VectorProducts: the given statement, proved. For every three blocks and every number the Go function VectorProducts returns true: no condition. -/
import Derived.Test.YteonemnpbpiifaaRows
import Derived.Test.YteonemnpbpiifaaWordsProof
import Derived.Test.YteonemnpbpiifaaT
import Derived.Test.YteonemnpbpiifaaU
import Derived.WalkKit
import Derived.ProofKit
import Derived.OpenShut
import Derived.ChangeSame
import Derived.RowKit3
import Derived.Below
import Derived.Carry
namespace Go.Proofs.Yteonemnpbpiifaa.vectorProducts
open Go.ChangeShapes Go.WideShapes Go.ChangeAt Go.RowKit
open Go.Proofs.Yteonemnpbpiifaa.vectorWords (natF natF_lt natF_bA woN_U)
set_option linter.unusedVariables false
set_option linter.unusedSimpArgs false
theorem prod_m (A B : Nat → Nat) (hA : ∀ j, A j < 256) (hB : ∀ j, B j < 256) (imm : Int) (s1 s2 : Bool) (e1 : (bits .and .u8 imm 1 != 0) = s1) (e2 : (bits .and .u8 imm 16 != 0) = s2) (p1 p2 : Nat)
    (q1 : (if s1 then woN A 1 else woN A 0) = p1) (q2 : (if s2 then woN B 1 else woN B 0) = p2) (W : World) :
    Calls Try.prog 11 #[.int .u8 39, .agg (bN A), .agg (bN B), .int .u8 imm] W fun e W' => e = .returned (.agg (bN (blF (mL p1 p2) (mH p1 p2)))) ∧ Below W.heap.size W W' := by
  have u1 : U p1 := by rw [← q1]; split <;> exact woN_U A hA _
  have u2 : U p2 := by rw [← q2]; split <;> exact woN_U B hB _
  refine do_32 _ _ _ (bA_size _) (bA_one _) (bA_size _) (bA_one _) (bA_size _) (bA_one _) imm (fun W => ?_) W
  exact product_core (bN A) (bN B) _ (bA_size _) (bA_one _) (bA_size _) (bA_one _) (bA_size _) (bA_one _) imm _ _ _ _ (mL p1 p2 : Nat) (mH p1 p2 : Nat) s1 s2
    (fun W => split_any A hA W) (fun W => split_any B hB W) e1 e2 (p1 : Nat) (p2 : Nat) (by rw [← q1]; split <;> rfl) (by rw [← q2]; split <;> rfl) (fun W => clmul_m p1 p2 u1 u2 W) (fun W => block_any _ _ W) W
theorem xor_m (A B : Nat → Nat) (hA : ∀ j, A j < 256) (hB : ∀ j, B j < 256) (W : World) :
    Calls Try.prog 11 #[.int .u8 36, .agg (bN A), .agg (bN B), .int .u8 0] W fun e W' => e = .returned (.agg (bN (fun i => A i ^^^ B i))) ∧ Below W.heap.size W W' := by
  have h5 := do_27 (bN A) (bN B) (bA (xF (fun i => (A i : Int)) (fun i => (B i : Int)))) (bA_size _) (bA_one _) (bA_size _) (bA_one _) (bA_size _) (bA_one _) 0 (fun W => xor_any _ _ 0 W) W
  have ex : bA (xF (fun i => (A i : Int)) (fun i => (B i : Int))) = bN (fun i => A i ^^^ B i) := bA_congr fun i _ => u8_xor_nat (A i) (B i) (hA i) (hB i)
  rwa [ex] at h5
theorem wf_bN (A : Nat → Nat) (hA : ∀ j, A j < 256) (i : Nat) : (Lit.int .u8 ((A i : Nat) : Int)).wf = true := by
  have := hA i
  simp [Lit.wf, IntKind.min, IntKind.max, IntKind.bits, IntKind.signed]
  omega
theorem bits_fin : ∀ n : Fin 256, (bits .and .u8 (n.val : Int) 1 != 0) = (bits .and .u8 (n.val : Int) 1 == 1) ∧ (bits .and .u8 (n.val : Int) 16 != 0) = (bits .and .u8 ((n.val : Int) / 16) 1 == 1) ∧
    (bits .and .u8 (bits .or .u8 (bits .and .u8 ((n.val : Int) / 16) 1) (bits .and .u8 (n.val : Int) 1 * 16 % 256)) 1 != 0) = (bits .and .u8 ((n.val : Int) / 16) 1 == 1) ∧
    (bits .and .u8 (bits .or .u8 (bits .and .u8 ((n.val : Int) / 16) 1) (bits .and .u8 (n.val : Int) 1 * 16 % 256)) 16 != 0) = (bits .and .u8 (n.val : Int) 1 == 1) := by decide +kernel
theorem walk_00 (F G H : Nat → Nat) (hf : ∀ j, F j < 256) (hg : ∀ j, G j < 256) (hh : ∀ j, H j < 256) (i j : Int) (ej : bits .or .u8 (bits .and .u8 (i / 16) 1) (bits .and .u8 i 1 * 16 % 256) = j)
    (g1 : (bits .and .u8 i 1 == 1) = false) (g2 : (bits .and .u8 (i / 16) 1 == 1) = false) (e1 : (bits .and .u8 i 1 != 0) = false) (e2 : (bits .and .u8 i 16 != 0) = false) (d1 : (bits .and .u8 j 1 != 0) = false) (d2 : (bits .and .u8 j 16 != 0) = false) (w : World) :
    Calls Try.prog 5 #[.agg (bN F), .agg (bN G), .agg (bN H), .int .u8 i] w fun e w' => e = .returned (.bool true) ∧ Below w.heap.size w w' := by
  have hx : ∀ j, F j ^^^ G j < 256 := fun j => Nat.xor_lt_two_pow (n := 8) (hf j) (hg j)
  have u1 : U (woN F 0) := woN_U F hf _
  have u2 : U (woN H 0) := woN_U H hh _
  have hl := mL_lt (woN F 0) (woN H 0)
  have hi := mH_lt (woN F 0) (woN H 0) u1
  have h5 := fun W => prod_m (fun i => F i ^^^ G i) H hx hh i false false e1 e2 ((woN F 0) ^^^ (woN G 0)) (woN H 0) (woN_xor F G hf hg _) rfl W
  rw [mL_xor, mH_xor] at h5
  rw [show bN (blF (mL (woN F 0) (woN H 0) ^^^ mL (woN G 0) (woN H 0)) (mH (woN F 0) (woN H 0) ^^^ mH (woN G 0) (woN H 0))) = bN (fun i => blF (mL (woN F 0) (woN H 0)) (mH (woN F 0) (woN H 0)) i ^^^ blF (mL (woN G 0) (woN H 0)) (mH (woN G 0) (woN H 0)) i) from bA_congr fun i _ => by show ((blF _ _ i : Nat) : Int) = _; rw [blF_xor]] at h5
  have h9 := fun W => vwords_any (blF (mL (woN F 0) (woN H 0)) (mH (woN F 0) (woN H 0))) (blF_lt _ _) W
  rw [woN_low _ _ hl, woN_high _ _ hi] at h9
  have h10 := fun W => prod_m H F hh hf j false false d1 d2 (woN H 0) (woN F 0) rfl rfl W
  rw [mL_comm _ _ u2 u1, mH_comm _ _ u2 u1] at h10
  exact prods_00 i j (bN F) (bN G) (bN H) (bN (blF (mL (woN F 0) (woN H 0)) (mH (woN F 0) (woN H 0)))) (bN (blF (mL (woN G 0) (woN H 0)) (mH (woN G 0) (woN H 0)))) (bN (fun i => blF (mL (woN F 0) (woN H 0)) (mH (woN F 0) (woN H 0)) i ^^^ blF (mL (woN G 0) (woN H 0)) (mH (woN G 0) (woN H 0)) i)) (bN (fun i => F i ^^^ G i))
    (bA_size _) (bA_one _) (bA_size _) (bA_one _) (bA_size _) (bA_one _) (bA_size _) (bA_one _) (woN F 0 : Nat) (woN F 1 : Nat) (woN H 0 : Nat) (woN H 1 : Nat) (mL (woN F 0) (woN H 0) : Nat) (mH (woN F 0) (woN H 0) : Nat)
    (fun W => prod_m F H hf hh i false false e1 e2 (woN F 0) (woN H 0) rfl rfl W) (fun W => prod_m G H hg hh i false false e1 e2 (woN G 0) (woN H 0) rfl rfl W) (fun W => xor_m _ _ (blF_lt _ _) (blF_lt _ _) W) (fun W => xor_m F G hf hg W) h5
    (fun W => vwords_any F hf W) (fun W => vwords_any H hh W) (fun W => rclmul_any _ _ u1 u2 W) h9 h10 wakes_any
    (fun w => eq22_bA _ (fun i _ => wf_bN _ (blF_lt _ _) i) w) (fun w => eq22_bA _ (fun i _ => wf_bN (fun i => blF _ _ i ^^^ blF _ _ i) (fun j => Nat.xor_lt_two_pow (n := 8) (blF_lt _ _ j) (blF_lt _ _ j)) i) w) ej g1 g2 w
theorem walk_01 (F G H : Nat → Nat) (hf : ∀ j, F j < 256) (hg : ∀ j, G j < 256) (hh : ∀ j, H j < 256) (i j : Int) (ej : bits .or .u8 (bits .and .u8 (i / 16) 1) (bits .and .u8 i 1 * 16 % 256) = j)
    (g1 : (bits .and .u8 i 1 == 1) = false) (g2 : (bits .and .u8 (i / 16) 1 == 1) = true) (e1 : (bits .and .u8 i 1 != 0) = false) (e2 : (bits .and .u8 i 16 != 0) = true) (d1 : (bits .and .u8 j 1 != 0) = true) (d2 : (bits .and .u8 j 16 != 0) = false) (w : World) :
    Calls Try.prog 5 #[.agg (bN F), .agg (bN G), .agg (bN H), .int .u8 i] w fun e w' => e = .returned (.bool true) ∧ Below w.heap.size w w' := by
  have hx : ∀ j, F j ^^^ G j < 256 := fun j => Nat.xor_lt_two_pow (n := 8) (hf j) (hg j)
  have u1 : U (woN F 0) := woN_U F hf _
  have u2 : U (woN H 1) := woN_U H hh _
  have hl := mL_lt (woN F 0) (woN H 1)
  have hi := mH_lt (woN F 0) (woN H 1) u1
  have h5 := fun W => prod_m (fun i => F i ^^^ G i) H hx hh i false true e1 e2 ((woN F 0) ^^^ (woN G 0)) (woN H 1) (woN_xor F G hf hg _) rfl W
  rw [mL_xor, mH_xor] at h5
  rw [show bN (blF (mL (woN F 0) (woN H 1) ^^^ mL (woN G 0) (woN H 1)) (mH (woN F 0) (woN H 1) ^^^ mH (woN G 0) (woN H 1))) = bN (fun i => blF (mL (woN F 0) (woN H 1)) (mH (woN F 0) (woN H 1)) i ^^^ blF (mL (woN G 0) (woN H 1)) (mH (woN G 0) (woN H 1)) i) from bA_congr fun i _ => by show ((blF _ _ i : Nat) : Int) = _; rw [blF_xor]] at h5
  have h9 := fun W => vwords_any (blF (mL (woN F 0) (woN H 1)) (mH (woN F 0) (woN H 1))) (blF_lt _ _) W
  rw [woN_low _ _ hl, woN_high _ _ hi] at h9
  have h10 := fun W => prod_m H F hh hf j true false d1 d2 (woN H 1) (woN F 0) rfl rfl W
  rw [mL_comm _ _ u2 u1, mH_comm _ _ u2 u1] at h10
  exact prods_01 i j (bN F) (bN G) (bN H) (bN (blF (mL (woN F 0) (woN H 1)) (mH (woN F 0) (woN H 1)))) (bN (blF (mL (woN G 0) (woN H 1)) (mH (woN G 0) (woN H 1)))) (bN (fun i => blF (mL (woN F 0) (woN H 1)) (mH (woN F 0) (woN H 1)) i ^^^ blF (mL (woN G 0) (woN H 1)) (mH (woN G 0) (woN H 1)) i)) (bN (fun i => F i ^^^ G i))
    (bA_size _) (bA_one _) (bA_size _) (bA_one _) (bA_size _) (bA_one _) (bA_size _) (bA_one _) (woN F 0 : Nat) (woN F 1 : Nat) (woN H 0 : Nat) (woN H 1 : Nat) (mL (woN F 0) (woN H 1) : Nat) (mH (woN F 0) (woN H 1) : Nat)
    (fun W => prod_m F H hf hh i false true e1 e2 (woN F 0) (woN H 1) rfl rfl W) (fun W => prod_m G H hg hh i false true e1 e2 (woN G 0) (woN H 1) rfl rfl W) (fun W => xor_m _ _ (blF_lt _ _) (blF_lt _ _) W) (fun W => xor_m F G hf hg W) h5
    (fun W => vwords_any F hf W) (fun W => vwords_any H hh W) (fun W => rclmul_any _ _ u1 u2 W) h9 h10 wakes_any
    (fun w => eq22_bA _ (fun i _ => wf_bN _ (blF_lt _ _) i) w) (fun w => eq22_bA _ (fun i _ => wf_bN (fun i => blF _ _ i ^^^ blF _ _ i) (fun j => Nat.xor_lt_two_pow (n := 8) (blF_lt _ _ j) (blF_lt _ _ j)) i) w) ej g1 g2 w
theorem walk_10 (F G H : Nat → Nat) (hf : ∀ j, F j < 256) (hg : ∀ j, G j < 256) (hh : ∀ j, H j < 256) (i j : Int) (ej : bits .or .u8 (bits .and .u8 (i / 16) 1) (bits .and .u8 i 1 * 16 % 256) = j)
    (g1 : (bits .and .u8 i 1 == 1) = true) (g2 : (bits .and .u8 (i / 16) 1 == 1) = false) (e1 : (bits .and .u8 i 1 != 0) = true) (e2 : (bits .and .u8 i 16 != 0) = false) (d1 : (bits .and .u8 j 1 != 0) = false) (d2 : (bits .and .u8 j 16 != 0) = true) (w : World) :
    Calls Try.prog 5 #[.agg (bN F), .agg (bN G), .agg (bN H), .int .u8 i] w fun e w' => e = .returned (.bool true) ∧ Below w.heap.size w w' := by
  have hx : ∀ j, F j ^^^ G j < 256 := fun j => Nat.xor_lt_two_pow (n := 8) (hf j) (hg j)
  have u1 : U (woN F 1) := woN_U F hf _
  have u2 : U (woN H 0) := woN_U H hh _
  have hl := mL_lt (woN F 1) (woN H 0)
  have hi := mH_lt (woN F 1) (woN H 0) u1
  have h5 := fun W => prod_m (fun i => F i ^^^ G i) H hx hh i true false e1 e2 ((woN F 1) ^^^ (woN G 1)) (woN H 0) (woN_xor F G hf hg _) rfl W
  rw [mL_xor, mH_xor] at h5
  rw [show bN (blF (mL (woN F 1) (woN H 0) ^^^ mL (woN G 1) (woN H 0)) (mH (woN F 1) (woN H 0) ^^^ mH (woN G 1) (woN H 0))) = bN (fun i => blF (mL (woN F 1) (woN H 0)) (mH (woN F 1) (woN H 0)) i ^^^ blF (mL (woN G 1) (woN H 0)) (mH (woN G 1) (woN H 0)) i) from bA_congr fun i _ => by show ((blF _ _ i : Nat) : Int) = _; rw [blF_xor]] at h5
  have h9 := fun W => vwords_any (blF (mL (woN F 1) (woN H 0)) (mH (woN F 1) (woN H 0))) (blF_lt _ _) W
  rw [woN_low _ _ hl, woN_high _ _ hi] at h9
  have h10 := fun W => prod_m H F hh hf j false true d1 d2 (woN H 0) (woN F 1) rfl rfl W
  rw [mL_comm _ _ u2 u1, mH_comm _ _ u2 u1] at h10
  exact prods_10 i j (bN F) (bN G) (bN H) (bN (blF (mL (woN F 1) (woN H 0)) (mH (woN F 1) (woN H 0)))) (bN (blF (mL (woN G 1) (woN H 0)) (mH (woN G 1) (woN H 0)))) (bN (fun i => blF (mL (woN F 1) (woN H 0)) (mH (woN F 1) (woN H 0)) i ^^^ blF (mL (woN G 1) (woN H 0)) (mH (woN G 1) (woN H 0)) i)) (bN (fun i => F i ^^^ G i))
    (bA_size _) (bA_one _) (bA_size _) (bA_one _) (bA_size _) (bA_one _) (bA_size _) (bA_one _) (woN F 0 : Nat) (woN F 1 : Nat) (woN H 0 : Nat) (woN H 1 : Nat) (mL (woN F 1) (woN H 0) : Nat) (mH (woN F 1) (woN H 0) : Nat)
    (fun W => prod_m F H hf hh i true false e1 e2 (woN F 1) (woN H 0) rfl rfl W) (fun W => prod_m G H hg hh i true false e1 e2 (woN G 1) (woN H 0) rfl rfl W) (fun W => xor_m _ _ (blF_lt _ _) (blF_lt _ _) W) (fun W => xor_m F G hf hg W) h5
    (fun W => vwords_any F hf W) (fun W => vwords_any H hh W) (fun W => rclmul_any _ _ u1 u2 W) h9 h10 wakes_any
    (fun w => eq22_bA _ (fun i _ => wf_bN _ (blF_lt _ _) i) w) (fun w => eq22_bA _ (fun i _ => wf_bN (fun i => blF _ _ i ^^^ blF _ _ i) (fun j => Nat.xor_lt_two_pow (n := 8) (blF_lt _ _ j) (blF_lt _ _ j)) i) w) ej g1 g2 w
theorem walk_11 (F G H : Nat → Nat) (hf : ∀ j, F j < 256) (hg : ∀ j, G j < 256) (hh : ∀ j, H j < 256) (i j : Int) (ej : bits .or .u8 (bits .and .u8 (i / 16) 1) (bits .and .u8 i 1 * 16 % 256) = j)
    (g1 : (bits .and .u8 i 1 == 1) = true) (g2 : (bits .and .u8 (i / 16) 1 == 1) = true) (e1 : (bits .and .u8 i 1 != 0) = true) (e2 : (bits .and .u8 i 16 != 0) = true) (d1 : (bits .and .u8 j 1 != 0) = true) (d2 : (bits .and .u8 j 16 != 0) = true) (w : World) :
    Calls Try.prog 5 #[.agg (bN F), .agg (bN G), .agg (bN H), .int .u8 i] w fun e w' => e = .returned (.bool true) ∧ Below w.heap.size w w' := by
  have hx : ∀ j, F j ^^^ G j < 256 := fun j => Nat.xor_lt_two_pow (n := 8) (hf j) (hg j)
  have u1 : U (woN F 1) := woN_U F hf _
  have u2 : U (woN H 1) := woN_U H hh _
  have hl := mL_lt (woN F 1) (woN H 1)
  have hi := mH_lt (woN F 1) (woN H 1) u1
  have h5 := fun W => prod_m (fun i => F i ^^^ G i) H hx hh i true true e1 e2 ((woN F 1) ^^^ (woN G 1)) (woN H 1) (woN_xor F G hf hg _) rfl W
  rw [mL_xor, mH_xor] at h5
  rw [show bN (blF (mL (woN F 1) (woN H 1) ^^^ mL (woN G 1) (woN H 1)) (mH (woN F 1) (woN H 1) ^^^ mH (woN G 1) (woN H 1))) = bN (fun i => blF (mL (woN F 1) (woN H 1)) (mH (woN F 1) (woN H 1)) i ^^^ blF (mL (woN G 1) (woN H 1)) (mH (woN G 1) (woN H 1)) i) from bA_congr fun i _ => by show ((blF _ _ i : Nat) : Int) = _; rw [blF_xor]] at h5
  have h9 := fun W => vwords_any (blF (mL (woN F 1) (woN H 1)) (mH (woN F 1) (woN H 1))) (blF_lt _ _) W
  rw [woN_low _ _ hl, woN_high _ _ hi] at h9
  have h10 := fun W => prod_m H F hh hf j true true d1 d2 (woN H 1) (woN F 1) rfl rfl W
  rw [mL_comm _ _ u2 u1, mH_comm _ _ u2 u1] at h10
  exact prods_11 i j (bN F) (bN G) (bN H) (bN (blF (mL (woN F 1) (woN H 1)) (mH (woN F 1) (woN H 1)))) (bN (blF (mL (woN G 1) (woN H 1)) (mH (woN G 1) (woN H 1)))) (bN (fun i => blF (mL (woN F 1) (woN H 1)) (mH (woN F 1) (woN H 1)) i ^^^ blF (mL (woN G 1) (woN H 1)) (mH (woN G 1) (woN H 1)) i)) (bN (fun i => F i ^^^ G i))
    (bA_size _) (bA_one _) (bA_size _) (bA_one _) (bA_size _) (bA_one _) (bA_size _) (bA_one _) (woN F 0 : Nat) (woN F 1 : Nat) (woN H 0 : Nat) (woN H 1 : Nat) (mL (woN F 1) (woN H 1) : Nat) (mH (woN F 1) (woN H 1) : Nat)
    (fun W => prod_m F H hf hh i true true e1 e2 (woN F 1) (woN H 1) rfl rfl W) (fun W => prod_m G H hg hh i true true e1 e2 (woN G 1) (woN H 1) rfl rfl W) (fun W => xor_m _ _ (blF_lt _ _) (blF_lt _ _) W) (fun W => xor_m F G hf hg W) h5
    (fun W => vwords_any F hf W) (fun W => vwords_any H hh W) (fun W => rclmul_any _ _ u1 u2 W) h9 h10 wakes_any
    (fun w => eq22_bA _ (fun i _ => wf_bN _ (blF_lt _ _) i) w) (fun w => eq22_bA _ (fun i _ => wf_bN (fun i => blF _ _ i ^^^ blF _ _ i) (fun j => Nat.xor_lt_two_pow (n := 8) (blF_lt _ _ j) (blF_lt _ _ j)) i) w) ej g1 g2 w
theorem walk (f g h : Nat → Int) (a3 : Int) (wf : ∀ i, i < 16 → (Lit.int .u8 (f i)).wf = true) (wg : ∀ i, i < 16 → (Lit.int .u8 (g i)).wf = true) (wh : ∀ i, i < 16 → (Lit.int .u8 (h i)).wf = true) (w3 : (Lit.int .u8 a3).wf = true) (w : World) :
    Calls Try.prog 5 #[.agg (bA f), .agg (bA g), .agg (bA h), .int .u8 a3] w fun e w' => e = .returned (.bool true) ∧ Below w.heap.size w w' := by
  have hf := natF_lt f wf
  have hg := natF_lt g wg
  have hh := natF_lt h wh
  rw [natF_bA f wf, natF_bA g wg, natF_bA h wh]
  generalize natF f = F at hf
  generalize natF g = G at hg
  generalize natF h = H at hh
  have hb := Go.bounds_u8 w3
  obtain ⟨n, rfl⟩ := Int.eq_ofNat_of_zero_le hb.1
  obtain ⟨b1, b2, b3, b4⟩ := bits_fin ⟨n, by omega⟩
  dsimp only at b1 b2 b3 b4
  cases g1 : (bits .and .u8 (n : Int) 1 == 1) <;> cases g2 : (bits .and .u8 ((n : Int) / 16) 1 == 1)
  · exact walk_00 F G H hf hg hh n _ rfl g1 g2 (b1.trans g1) (b2.trans g2) (b3.trans g2) (b4.trans g1) w
  · exact walk_01 F G H hf hg hh n _ rfl g1 g2 (b1.trans g1) (b2.trans g2) (b3.trans g2) (b4.trans g1) w
  · exact walk_10 F G H hf hg hh n _ rfl g1 g2 (b1.trans g1) (b2.trans g2) (b3.trans g2) (b4.trans g1) w
  · exact walk_11 F G H hf hg hh n _ rfl g1 g2 (b1.trans g1) (b2.trans g2) (b3.trans g2) (b4.trans g1) w
set_option maxRecDepth 100000 in
theorem lifted (os : Os) (started : os.Started) (H : Type) (enc : TypeId × Value → H) :
    ReturnsInHanded {} Try.checked os 5 .any (Rows.vectorProductsSpec.pre6 enc Try.prog Try.f5 Rows.vectorProductsRow.domain false) (Rows.vectorProductsSpec.post enc Try.prog Try.f5 false true false false) := by
  refine returnsInHanded_of_change (C := Try.checked) vectorOthers.own started (by kernel_rfl) Try.func5
    (ChangeSpec.witness6 (enc := enc) (C := Try.checked) false ⟨#[], #[.agg #[.int .u8 0, .int .u8 0, .int .u8 0, .int .u8 0, .int .u8 0, .int .u8 0, .int .u8 0, .int .u8 0, .int .u8 0, .int .u8 0, .int .u8 0, .int .u8 0, .int .u8 0, .int .u8 0, .int .u8 0, .int .u8 0], .agg #[.int .u8 0, .int .u8 0, .int .u8 0, .int .u8 0, .int .u8 0, .int .u8 0, .int .u8 0, .int .u8 0, .int .u8 0, .int .u8 0, .int .u8 0, .int .u8 0, .int .u8 0, .int .u8 0, .int .u8 0, .int .u8 0], .agg #[.int .u8 0, .int .u8 0, .int .u8 0, .int .u8 0, .int .u8 0, .int .u8 0, .int .u8 0, .int .u8 0, .int .u8 0, .int .u8 0, .int .u8 0, .int .u8 0, .int .u8 0, .int .u8 0, .int .u8 0, .int .u8 0], .int .u8 0], []⟩ 8 (by kernel_rfl) (by kernel_rfl) (by kernel_rfl) (by kernel_rfl)) ?_
  intro W base args ds gs before hval0 hW hcnd _
  have hval : ∀ (j : Nat) t v, Try.f5.params[j]? = some t → args[j]? = some v → Value.okWide Try.prog W .any base t v := hval0
  have hW' := hW
  obtain ⟨p, q, hA0, hV, rfl, hfz, hnd⟩ := hW
  have hA : DataW.TrodAll enc Try.prog W 0 (fun _ => true) true Try.f5.params.toList args.toList ds p := hA0
  rw [Try.params5] at hA hval
  obtain ⟨v0, vs0, d0, ds0, p0, q0, hargs, rfl, rfl, h0, r0⟩ := trodAll_cons hA
  obtain ⟨v1, vs1, d1, ds1, p1, q1, rfl, rfl, rfl, h1, r1⟩ := trodAll_cons r0
  obtain ⟨v2, vs2, d2, ds2, p2, q2, rfl, rfl, rfl, h2, r2⟩ := trodAll_cons r1
  obtain ⟨v3, vs3, d3, ds3, p3, q3, rfl, rfl, rfl, h3, r3⟩ := trodAll_cons r2
  obtain ⟨rfl, rfl, rfl⟩ := trodAll_nil r3
  obtain rfl : args = #[v0, v1, v2, v3] := by cases args; simp_all
  obtain ⟨rfl, rfl⟩ := trodVars_none hV
  obtain ⟨f, rfl, rfl, rfl, wf⟩ := vectorOthers.open16 (hval 0 22 v0 rfl rfl) h0
  obtain ⟨g, rfl, rfl, rfl, wg⟩ := vectorOthers.open16 (hval 1 22 v1 rfl rfl) h1
  obtain ⟨h, rfl, rfl, rfl, wh⟩ := vectorOthers.open16 (hval 2 22 v2 rfl rfl) h2
  obtain ⟨a3, rfl, rfl, rfl, w3⟩ := open_int Try.underlying5 (hval 3 5 v3 rfl rfl) h3
  clear hA0 hval0
  simp only [List.append_nil] at hW'
  refine (walk f g h a3 wf wg wh w3 W).mono fun e W' ⟨he, hg⟩ => ?_
  subst he
  exact ⟨_, rfl, _, _, _, [], _, [], hW', trodAll_mk1 (shut_bool Try.underlying4 _), (trodAll_cons_mk (vectorOthers.shut16 wf) (trodAll_cons_mk (vectorOthers.shut16 wg) (trodAll_cons_mk (vectorOthers.shut16 wh) (trodAll_cons_mk (shut_int Try.underlying5 w3) trodAll_mk0)))), rfl, hg.frame _, fun h => by cases h⟩
theorem over : Rows.vectorProductsRow.holds Try.pinned (OpenSpec.ofChange Rows.vectorProductsSpec) :=
  OpenClaim.holds_of_wide 5 Try.f5 rfl rfl rfl rfl rfl rfl rfl ⟨rfl, rfl, rfl, rfl, rfl⟩ rfl rfl rfl rfl rfl (by kernel_rfl) Try.func5 (by kernel_rfl)
    (of_decide_eq_true (by kernel_rfl)) (by unfold Func.isWrapper; first | (rw [if_pos (by decide +kernel)]; kernel_rfl) | (rw [if_neg (by decide +kernel)]; exact ⟨rfl, rfl⟩))
    (fun os started H enc _ => lifted os started H enc)
theorem proved : Rows.VectorProductsSaid := over
#print axioms proved
end Go.Proofs.Yteonemnpbpiifaa.vectorProducts
