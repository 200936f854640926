/- VectorBack, for all blocks. -/
import Derived.Test.YtldicconopcipaaFh
import Derived.Test.YtldicconopcipaaOb
namespace Go.Proofs.Ytldicconopcipaa
open Go.RowKit
set_option linter.unusedVariables false
set_option linter.unusedSimpArgs false
theorem key_m (M : (Nat → Nat) → Nat → Nat) (f g : Nat → Nat) : bN (fun i => roN M f (fun _ => 0) i ^^^ g i) = bN (roN M f g) := bN_congr fun i hi => roN_key M f g i hi
theorem twice_m (f g : Nat → Nat) : bN (fun i => f i ^^^ g i ^^^ g i) = bN f := bN_congr fun i _ => by rw [Nat.xor_assoc, Nat.xor_self, Nat.xor_zero]
theorem vback_walk (f g : Nat → Int) (wf : ∀ i, i < 16 → (Lit.int .u8 (f i)).wf = true) (wg : ∀ i, i < 16 → (Lit.int .u8 (g i)).wf = true) (w : World) :
    Calls Try.prog 4 #[.agg (bA f), .agg (bA g)] w fun e w' => e = .returned (.bool true) ∧ Below w.heap.size w w' := by
  have hf := natF_lt f wf
  have hg := natF_lt g wg
  rw [natF_bA f wf, natF_bA g wg]
  generalize natF f = F at hf
  generalize natF g = G at hg
  have hx : ∀ j, F j ^^^ G j < 256 := fun j => xor_lt8 (hf j) (hg j)
  have hX2 := fun W => xor_m (fun i => F i ^^^ G i) G hx hg W
  rw [twice_m] at hX2
  have hz : ∀ j : Nat, (fun _ : Nat => 0) j < 256 := fun _ => Nat.zero_lt_succ _
  have he0 := roN_lt mixN mixN_lt F (fun _ => 0) hz
  have hl0 := roN_lt idN idN_lt F (fun _ => 0) hz
  have hE1 := fun W => xor_m (roN mixN F (fun _ => 0)) G he0 hg W
  have hL1 := fun W => xor_m (roN idN F (fun _ => 0)) G hl0 hg W
  rw [key_m] at hE1 hL1
  have hB := fun W => block_any (woN F 0) (woN F 1) W
  rw [blF_words F hf] at hB
  refine vback_core (bN F) (bN G) (bN (fun i => F i ^^^ G i)) _ _ _ _ (woN F 0 : Nat) (woN F 1 : Nat) (bA_size _) (bA_one _) (bA_size _) (bA_one _) w (fun W hR => ?_)
    (eq22_bA _ (fun i _ => wf_bN F hf i)) (eq22_bA _ (fun i _ => wf_bN _ (roN_lt mixN mixN_lt F G hg) i)) (eq22_bA _ (fun i _ => wf_bN _ (roN_lt idN idN_lt F G hg) i))
    (fun W => vwords_any F hf W) hB (fun W => xor_m F G hf hg W) hX2
    (fun W => enc_any F (fun _ => 0) hf hz 0 W) hE1 (fun W => enc_any F G hf hg 0 W) (fun W => last_any F (fun _ => 0) hf hz 0 W) hL1 (fun W => last_any F G hf hg 0 W) wakes_any
  have h := of_any (some ⟨w.heap.size, 0, none⟩) 16 16 (fun i => (F i : Int)) W (fun _ => ⟨_, 0, rfl, fun j hj => by rw [Nat.zero_add]; exact RB.cell hR j hj⟩)
  rwa [show bA (ofF 16 fun i => (F i : Int)) = bN F from bA_congr (fun i hi => if_pos hi)] at h
end Go.Proofs.Ytldicconopcipaa
