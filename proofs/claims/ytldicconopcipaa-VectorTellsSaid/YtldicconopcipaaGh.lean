/- VectorTells, for all arguments. -/
import Derived.Test.YtldicconopcipaaGg
namespace Go.Proofs.Ytldicconopcipaa
open Go.RowKit
set_option linter.unusedVariables false
set_option linter.unusedSimpArgs false
theorem prod_m (A B : Nat → Nat) (hA : ∀ j, A j < 256) (hB : ∀ j, B j < 256) (imm : Int) (s1 s2 : Bool) (e1 : (bits .and .u8 imm 1 != 0) = s1) (e2 : (bits .and .u8 imm 16 != 0) = s2) (p1 p2 : Nat)
    (q1 : (if s1 then woN A 1 else woN A 0) = p1) (q2 : (if s2 then woN B 1 else woN B 0) = p2) (W : World) :
    Calls Try.prog 11 #[.int .u8 39, .agg (bN A), .agg (bN B), .int .u8 imm] W fun e W' => e = .returned (.agg (bN (blF (mL p1 p2) (mH p1 p2)))) ∧ Below W.heap.size W W' := by
  have u1 : U p1 := by rw [← q1]; split <;> exact woN_U A hA _
  have u2 : U p2 := by rw [← q2]; split <;> exact woN_U B hB _
  refine do_32 _ _ _ (bA_size _) (bA_one _) (bA_size _) (bA_one _) (bA_size _) (bA_one _) imm (fun W => ?_) W
  exact product_core (bN A) (bN B) _ (bA_size _) (bA_one _) (bA_size _) (bA_one _) (bA_size _) (bA_one _) imm _ _ _ _ (mL p1 p2 : Nat) (mH p1 p2 : Nat) s1 s2
    (fun W => split_any A hA W) (fun W => split_any B hB W) e1 e2 (p1 : Nat) (p2 : Nat) (by rw [← q1]; split <;> rfl) (by rw [← q2]; split <;> rfl) (fun W => clmul_m p1 p2 u1 u2 W) (fun W => block_any _ _ W) W
theorem bits_fin : ∀ n : Fin 256, (bits .and .u8 (n.val : Int) 1 != 0) = (bits .and .u8 (n.val : Int) 1 == 1) ∧ (bits .and .u8 (n.val : Int) 16 != 0) = (bits .and .u8 ((n.val : Int) / 16) 1 == 1) ∧
    (bits .and .u8 (bits .or .u8 (bits .and .u8 ((n.val : Int) / 16) 1) (bits .and .u8 (n.val : Int) 1 * 16 % 256)) 1 != 0) = (bits .and .u8 ((n.val : Int) / 16) 1 == 1) ∧
    (bits .and .u8 (bits .or .u8 (bits .and .u8 ((n.val : Int) / 16) 1) (bits .and .u8 (n.val : Int) 1 * 16 % 256)) 16 != 0) = (bits .and .u8 (n.val : Int) 1 == 1) := by decide +kernel
set_option maxHeartbeats 1000000 in
theorem tells_do (K : Int) (F G : Nat → Nat) (hf : ∀ j, F j < 256) (hg : ∀ j, G j < 256) (n : Nat) (hn : n < 256) : ∃ r : Array Value,
    (∀ W, Calls Try.prog 11 #[.int .u8 K, .agg (bN F), .agg (bN G), .int .u8 (n : Int)] W fun e w' => e = .returned (.agg r) ∧ Below W.heap.size W w') ∧
    (∀ W, Calls Try.prog 12 #[.int .u8 K, .agg (bN F), .agg (bN G), .int .u8 (n : Int)] W fun e w' => e = .returned (.agg r) ∧ Below W.heap.size W w') ∧
    (∀ W, (Op.equalIn 10000 22 (.agg r) (.agg r)).run Try.prog W = .ok true W) := by
  by_cases h35 : K = 35
  · subst h35
    exact ⟨bN G, fun W => do_26 (bN F) (bN G) (bN G) (bA_size _) (bA_one _) (bA_size _) (bA_one _) (bA_size _) (bA_one _) n (fun W => mv_any (bN F) (bN G) (bA_size _) (bA_one _) (bA_size _) (bA_one _) n W) W,
      fun W => rdo_35 (bN F) (bN G) (bA_size _) (bA_one _) (bA_size _) (bA_one _) n W, eq22_bA _ (fun i _ => wf_bN G hg i)⟩
  by_cases h36 : K = 36
  · subst h36
    have ex : bA (xF (fun i => (F i : Int)) (fun i => (G i : Int))) = bN (fun i => F i ^^^ G i) := bA_congr fun i _ => u8_xor_nat (F i) (G i) (hf i) (hg i)
    refine ⟨bN (fun i => F i ^^^ G i), fun W => ?_, fun W => ?_, eq22_bA _ (fun i _ => wf_bN (fun i => F i ^^^ G i) (fun j => xor_lt8 (hf j) (hg j)) i)⟩
    · have h5 := do_27 (bN F) (bN G) (bA (xF (fun i => (F i : Int)) (fun i => (G i : Int)))) (bA_size _) (bA_one _) (bA_size _) (bA_one _) (bA_size _) (bA_one _) n (fun W => xor_any _ _ n W) W
      rwa [ex] at h5
    · have h5 := rdo_36 (fun i => (F i : Int)) (fun i => (G i : Int)) n W
      rwa [ex] at h5
  by_cases h37 : K = 37
  · subst h37
    exact ⟨bN (roN mixN F G), fun W => enc_any F G hf hg n W, fun W => rdo_37 (bN F) (bN G) _ (bA_size _) (bA_one _) (bA_size _) (bA_one _) (bA_size _) (bA_one _) n (fun W => rround_any F G hf hg W) W, eq22_bA _ (fun i _ => wf_bN _ (roN_lt mixN mixN_lt F G hg) i)⟩
  by_cases h38 : K = 38
  · subst h38
    exact ⟨bN (roN idN F G), fun W => last_any F G hf hg n W, fun W => rdo_38 (bN F) (bN G) _ (bA_size _) (bA_one _) (bA_size _) (bA_one _) (bA_size _) (bA_one _) n (fun W => rlast_any F G hf hg W) W, eq22_bA _ (fun i _ => wf_bN _ (roN_lt idN idN_lt F G hg) i)⟩
  by_cases h39 : K = 39
  · subst h39
    obtain ⟨b1, b2, _, _⟩ := bits_fin ⟨n, hn⟩
    dsimp only at b1 b2
    obtain ⟨s1, g1⟩ : ∃ s, (bits .and .u8 (n : Int) 1 == 1) = s := ⟨_, rfl⟩
    obtain ⟨s2, g2⟩ : ∃ s, (bits .and .u8 ((n : Int) / 16) 1 == 1) = s := ⟨_, rfl⟩
    obtain ⟨p1, q1⟩ : ∃ p, (if s1 then woN F 1 else woN F 0) = p := ⟨_, rfl⟩
    obtain ⟨p2, q2⟩ : ∃ p, (if s2 then woN G 1 else woN G 0) = p := ⟨_, rfl⟩
    have u1 : U p1 := by rw [← q1]; split <;> exact woN_U F hf _
    have u2 : U p2 := by rw [← q2]; split <;> exact woN_U G hg _
    refine ⟨bN (blF (mL p1 p2) (mH p1 p2)), fun W => prod_m F G hf hg n s1 s2 (b1.trans g1) (b2.trans g2) p1 p2 q1 q2 W, fun W => ?_, eq22_bA _ (fun i _ => wf_bN _ (blF_lt _ _) i)⟩
    exact rdo_39 (bN F) (bN G) _ (bA_size _) (bA_one _) (bA_size _) (bA_one _) (bA_size _) (bA_one _) n (woN F 0 : Nat) (woN F 1 : Nat) (woN G 0 : Nat) (woN G 1 : Nat) (p1 : Nat) (p2 : Nat) (mL p1 p2 : Nat) (mH p1 p2 : Nat) s1 s2 g1 g2
      (by rw [← q1]; split <;> rfl) (by rw [← q2]; split <;> rfl) (fun W => rwords_any F hf W) (fun W => rwords_any G hg W) (fun W => rclmul_any p1 p2 u1 u2 W) (fun W => rblock_any _ _ W) (by omega) (by omega) W
  · exact ⟨bN F, fun W => do_miss K ⟨h35, h36, h37, h38, h39⟩ (bN F) (bN G) (bA_size _) (bA_one _) (bA_size _) (bA_one _) n W,
      fun W => rdo_miss (bN F) (bN G) (bA_size _) (bA_one _) (bA_size _) (bA_one _) n K ⟨by simpa using h35, by simpa using h36, by simpa using h37, by simpa using h38, by simpa using h39⟩ W, eq22_bA _ (fun i _ => wf_bN F hf i)⟩
theorem vtells_walk (K : Int) (f g : Nat → Int) (imm lo hi : Int) (ad : Option Addr) (len cap : Nat) (zs : List Int) (wK : (Lit.int .u8 K).wf = true) (wf : ∀ i, i < 16 → (Lit.int .u8 (f i)).wf = true) (wg : ∀ i, i < 16 → (Lit.int .u8 (g i)).wf = true) (wi : (Lit.int .u8 imm).wf = true) (wl : (Lit.int .u64 lo).wf = true) (wh : (Lit.int .u64 hi).wf = true)
    (w : World) (w5 : (ad = none ∧ len = 0 ∧ cap = 0 ∧ zs = []) ∨ ∃ x, ad = some x ∧ len ≤ cap ∧ cap ≤ maxLen ∧ zs.length = cap ∧ (∀ i, i < zs.length → w.cell? (x.add i) = some (.int .u8 (zs.getD i 0))) ∧ ∀ n ∈ zs, (Lit.int .u8 n).wf = true) :
    Calls Try.prog 3 #[.int .u8 K, .agg (bA f), .agg (bA g), .int .u8 imm, .int .u64 lo, .int .u64 hi, .slice ad len cap] w fun e w' => e = .returned (.bool true) ∧ Below w.heap.size w w' := by
  by_cases hlen : len ≤ 40
  · have b1 := Go.bounds_u8 wi
    have b2 := Go.bounds_u64 wl
    have b3 := Go.bounds_u64 wh
    obtain ⟨n, rfl⟩ := Int.eq_ofNat_of_zero_le b1.1
    obtain ⟨low, rfl⟩ := Int.eq_ofNat_of_zero_le b2.1
    obtain ⟨high, rfl⟩ := Int.eq_ofNat_of_zero_le b3.1
    have hf := natF_lt f wf
    have hg := natF_lt g wg
    rw [natF_bA f wf, natF_bA g wg]
    generalize natF f = F at hf
    generalize natF g = G at hg
    have hcap : len ≤ cap := by rcases w5 with ⟨_, h1, h2, _⟩ | ⟨_, _, h, _⟩ <;> omega
    have hsc : SX ad len (fun j => zs.getD j 0) w := fun hl => by
      rcases w5 with ⟨_, h1, _⟩ | ⟨x, rfl, hl2, _, hz, hcell, _⟩
      · omega
      · obtain ⟨b, off, spot⟩ := x
        have hc := hcell 0 (by omega)
        have hspot : spot = none := by simpa [Addr.add] using World.cell?_spot hc
        subst hspot
        refine ⟨b, off, rfl, fun j hj => ?_⟩
        have := hcell j (by omega)
        rwa [Addr.add_lit] at this
    have hzw : ∀ i, i < 16 → (Lit.int .u8 (ofF len (fun j => zs.getD j 0) i)).wf = true := fun i _ => by
      unfold ofF
      by_cases h : i < len
      · rw [if_pos h]
        rcases w5 with ⟨_, h1, _⟩ | ⟨x, _, hl2, _, hz, _, hw⟩
        · omega
        · have hi : i < zs.length := by omega
          have e : zs.getD i 0 = zs[i] := by simp [List.getD, hi]
          dsimp only
          rw [e]; exact hw _ (List.getElem_mem hi)
      · rw [if_neg h]; decide
    obtain ⟨r, hD1, hD2, er⟩ := tells_do K F G hf hg n (by omega)
    exact vtells_core K (bN F) (bN G) r (bN (blF low high)) (bA (ofF len (fun j => zs.getD j 0))) n low high (woN F 0 : Nat) (woN F 1 : Nat) ad len cap (fun j => zs.getD j 0) (bA_size _) (bA_one _) (bA_size _) (bA_one _) hlen w hsc er (eq22_bA _ (fun i _ => wf_bN _ (blF_lt _ _) i)) (eq22_bA _ hzw)
      (fun W => vwords_any F hf W) (fun W => rwords_any F hf W) hD1 hD2 (fun W => block_any low high W) (fun W => rblock_any low high W) (fun W h => of_any ad len cap _ W h) (fun W h => rof_any ad len cap _ W h hcap) wakes_any
  · exact vtells_out K (bA f) (bA g) imm lo hi ad len cap hlen w
end Go.Proofs.Ytldicconopcipaa
