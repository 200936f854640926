/- VectorWords: the given statement, proved. For every two blocks, every two words and every slice of bytes the Go function VectorWords returns true: no condition. -/
import Derived.Test.YteonemnpbpiifaaRows
import Derived.Test.YteonemnpbpiifaaOthersProof
import Derived.Test.YteonemnpbpiifaaP
import Derived.Test.YteonemnpbpiifaaQ
import Derived.WalkKit
import Derived.ProofKit
import Derived.OpenShut
import Derived.ChangeSame
import Derived.RowKit3
import Derived.Below
import Derived.Carry
namespace Go.Proofs.Yteonemnpbpiifaa.vectorWords
open Go.ChangeShapes Go.WideShapes Go.ChangeAt Go.RowKit
set_option linter.unusedVariables false
set_option linter.unusedSimpArgs false
theorem laidOut : laidOutB Try.prog = true := by kernel_rfl
def natF (f : Nat → Int) (i : Nat) : Nat := if i < 16 then (f i).toNat else 0
theorem natF_lt (f : Nat → Int) (wf : ∀ i, i < 16 → (Lit.int .u8 (f i)).wf = true) (j : Nat) : natF f j < 256 := by
  unfold natF
  split
  · have hb := Go.bounds_u8 (wf j (by assumption)); omega
  · decide
theorem natF_bA (f : Nat → Int) (wf : ∀ i, i < 16 → (Lit.int .u8 (f i)).wf = true) : bA f = bN (natF f) :=
  bA_congr fun i hi => by
    have hb := Go.bounds_u8 (wf i hi)
    unfold natF
    rw [if_pos hi]
    omega
theorem woN_U (f : Nat → Nat) (hf : ∀ j, f j < 256) (j : Nat) : woN f j < 18446744073709551616 := by
  have := numN_lt (fun i => f (8 * j + i)) (fun _ => hf _) 8
  simpa [woN] using this
set_option maxRecDepth 100000 in
set_option maxHeartbeats 1000000 in
theorem words_out (x y : Array Value) (lo hi : Int) (sp : Option Addr) (len cap : Nat) (hlen : ¬ len ≤ 40) (w : World) :
    Calls Try.prog 7 #[.agg x, .agg y, .int .u64 lo, .int .u64 hi, .slice sp len cap] w fun e w' => e = .returned (.bool true) ∧ Below w.heap.size w w' := by
  have hd : decide ((len : Int) > 40) = true := by simp; omega
  have HB := Lib.hid (((Below.refl _ w).alloc (Nat.le_refl _) (.cells x 22)).alloc (by simp) (.cells y 22))
  clear hlen
  go_enter Try.func7, Try.ntmps7
  go_wp2_with (go_at_call 8; refine (wakes_any _).mono ?_; rintro e w9 ⟨rfl, hb9⟩)
  go_ret
  exact ⟨rfl, HB.out.trans (hb9.mono HB.out.size)⟩
theorem walk (f g : Nat → Int) (lo hi : Int) (ad : Option Addr) (len cap : Nat) (zs : List Int) (wf : ∀ i, i < 16 → (Lit.int .u8 (f i)).wf = true) (wg : ∀ i, i < 16 → (Lit.int .u8 (g i)).wf = true) (w2 : (Lit.int .u64 lo).wf = true) (w3 : (Lit.int .u64 hi).wf = true)
    (w : World) (w5 : (ad = none ∧ len = 0 ∧ cap = 0 ∧ zs = []) ∨ ∃ x, ad = some x ∧ len ≤ cap ∧ cap ≤ maxLen ∧ zs.length = cap ∧ (∀ i, i < zs.length → w.cell? (x.add i) = some (.int .u8 (zs.getD i 0))) ∧ ∀ n ∈ zs, (Lit.int .u8 n).wf = true) :
    Calls Try.prog 7 #[.agg (bA f), .agg (bA g), .int .u64 lo, .int .u64 hi, .slice ad len cap] w fun e w' => e = .returned (.bool true) ∧ Below w.heap.size w w' := by
  by_cases hlen : len ≤ 40
  · have b2 := Go.bounds_u64 w2
    have b3 := Go.bounds_u64 w3
    obtain ⟨low, rfl⟩ := Int.eq_ofNat_of_zero_le b2.1
    obtain ⟨high, rfl⟩ := Int.eq_ofNat_of_zero_le b3.1
    have u2 : U low := by unfold U; omega
    have u3 : U high := by unfold U; omega
    have hf := natF_lt f wf
    have hg := natF_lt g wg
    rw [natF_bA f wf, natF_bA g wg]
    generalize natF f = F at hf
    generalize natF g = G at hg
    have hx : ∀ j, F j ^^^ G j < 256 := fun j => Nat.xor_lt_two_pow (n := 8) (hf j) (hg j)
    have h2 := fun W => vwords_any (blF low high) (blF_lt low high) W
    rw [woN_low low high u2, woN_high low high u3] at h2
    have h5 := fun W => do_27 (bN F) (bN G) (bA (xF (fun i => (F i : Int)) (fun i => (G i : Int)))) (bA_size _) (bA_one _) (bA_size _) (bA_one _) (bA_size _) (bA_one _) 0 (fun W => xor_any _ _ 0 W) W
    have ex : bA (xF (fun i => (F i : Int)) (fun i => (G i : Int))) = bN (fun i => F i ^^^ G i) := bA_congr fun i _ => u8_xor_nat (F i) (G i) (hf i) (hg i)
    rw [ex] at h5
    have h6 := fun W => vwords_any (fun i => F i ^^^ G i) hx W
    rw [woN_xor F G hf hg, woN_xor F G hf hg] at h6
    have hcap : len ≤ cap := by rcases w5 with ⟨_, h1, h2, _⟩ | ⟨_, _, h, _⟩ <;> omega
    have hsc : SC ad len (fun j => zs.getD j 0) w := fun hl => by
      rcases w5 with ⟨_, h1, _⟩ | ⟨x, rfl, hl2, _, hz, hcell, _⟩
      · omega
      · obtain ⟨b, off, spot⟩ := x
        have hc := hcell 0 (by omega)
        have hspot : spot = none := by simpa [Addr.add] using World.cell?_spot hc
        subst hspot
        refine ⟨b, off, rfl, fun j hj => ?_⟩
        have := hcell j (by omega)
        rwa [Addr.add_lit] at this
    exact words_core (bN F) (bN G) (bN (blF low high)) (bN (fun i => F i ^^^ G i)) (bA_size _) (bA_one _) (bA_size _) (bA_one _) _ _ _ _ _ _ _ _ ad len cap (fun j => zs.getD j 0) hlen hcap
      (fun W => block_any low high W) h2 (fun W => vwords_any F hf W) (fun W => vwords_any G hg W) h5 h6
      (u64_xor_nat _ _ (woN_U F hf 0) (woN_U G hg 0)) (u64_xor_nat _ _ (woN_U F hf 1) (woN_U G hg 1)) wakes_any w hsc
  · exact words_out (bA f) (bA g) lo hi ad len cap hlen w
set_option maxRecDepth 100000 in
theorem lifted (os : Os) (started : os.Started) (H : Type) (enc : TypeId × Value → H) :
    ReturnsInHanded {} Try.checked os 7 .any (Rows.vectorWordsSpec.pre6 enc Try.prog Try.f7 Rows.vectorWordsRow.domain false) (Rows.vectorWordsSpec.post enc Try.prog Try.f7 false true false false) := by
  refine returnsInHanded_of_change (C := Try.checked) vectorOthers.own started (by kernel_rfl) Try.func7
    (ChangeSpec.witness6 (enc := enc) (C := Try.checked) false ⟨#[], #[.agg #[.int .u8 0, .int .u8 0, .int .u8 0, .int .u8 0, .int .u8 0, .int .u8 0, .int .u8 0, .int .u8 0, .int .u8 0, .int .u8 0, .int .u8 0, .int .u8 0, .int .u8 0, .int .u8 0, .int .u8 0, .int .u8 0], .agg #[.int .u8 0, .int .u8 0, .int .u8 0, .int .u8 0, .int .u8 0, .int .u8 0, .int .u8 0, .int .u8 0, .int .u8 0, .int .u8 0, .int .u8 0, .int .u8 0, .int .u8 0, .int .u8 0, .int .u8 0, .int .u8 0], .int .u64 0, .int .u64 0, .slice none 0 0], []⟩ 8 (by kernel_rfl) (by kernel_rfl) (by kernel_rfl) (by kernel_rfl)) ?_
  intro W base args ds gs before hval0 hW hcnd _
  have hval : ∀ (j : Nat) t v, Try.f7.params[j]? = some t → args[j]? = some v → Value.okWide Try.prog W .any base t v := hval0
  have hW' := hW
  obtain ⟨p, q, hA0, hV, rfl, hfz, hnd⟩ := hW
  have hA : DataW.TrodAll enc Try.prog W 0 (fun _ => true) true Try.f7.params.toList args.toList ds p := hA0
  rw [Try.params7] at hA hval
  obtain ⟨v0, vs0, d0, ds0, p0, q0, hargs, rfl, rfl, h0, r0⟩ := trodAll_cons hA
  obtain ⟨v1, vs1, d1, ds1, p1, q1, rfl, rfl, rfl, h1, r1⟩ := trodAll_cons r0
  obtain ⟨v2, vs2, d2, ds2, p2, q2, rfl, rfl, rfl, h2, r2⟩ := trodAll_cons r1
  obtain ⟨v3, vs3, d3, ds3, p3, q3, rfl, rfl, rfl, h3, r3⟩ := trodAll_cons r2
  obtain ⟨v4, vs4, d4, ds4, p4, q4, rfl, rfl, rfl, h4, r4⟩ := trodAll_cons r3
  obtain ⟨rfl, rfl, rfl⟩ := trodAll_nil r4
  obtain rfl : args = #[v0, v1, v2, v3, v4] := by cases args; simp_all
  obtain ⟨rfl, rfl⟩ := trodVars_none hV
  obtain ⟨f, rfl, rfl, rfl, wf⟩ := vectorOthers.open16 (hval 0 22 v0 rfl rfl) h0
  obtain ⟨g, rfl, rfl, rfl, wg⟩ := vectorOthers.open16 (hval 1 22 v1 rfl rfl) h1
  obtain ⟨a2, rfl, rfl, rfl, w2⟩ := open_int Try.underlying23 (hval 2 23 v2 rfl rfl) h2
  obtain ⟨a3, rfl, rfl, rfl, w3⟩ := open_int Try.underlying23 (hval 3 23 v3 rfl rfl) h3
  obtain ⟨a4, len4, cap4, rfl⟩ := okWide_slice Try.underlying24 (hval 4 24 v4 rfl rfl)
  have k4 := h4
  have lt4 : ∀ x ∈ p4, x.block < W.heap.size := by obtain ⟨m, hm⟩ := k4; exact DataW.trod_lt m _ _ _ hm
  obtain ⟨z4, w4⟩ : ∃ zs : List Int, (a4 = none ∧ len4 = 0 ∧ cap4 = 0 ∧ zs = []) ∨ ∃ x, a4 = some x ∧ len4 ≤ cap4 ∧ cap4 ≤ maxLen ∧ zs.length = cap4 ∧ (∀ i, i < zs.length → W.cell? (x.add i) = some (.int .u8 (zs.getD i 0))) ∧ ∀ n ∈ zs, (Lit.int .u8 n).wf = true := by
    obtain ⟨fuel, hf⟩ := h4
    rcases open_ints Try.underlying24 Try.underlying5 (by kernel_rfl) hf with ⟨hcs, _⟩ | ⟨x, l, c, zs, hcs, _, hl, hm, hz, _, hcell, hwz⟩
    · simp [Value.cells] at hcs
      obtain ⟨rfl, rfl, rfl⟩ := hcs
      exact ⟨[], .inl ⟨rfl, rfl, rfl, rfl⟩⟩
    · simp [Value.cells] at hcs
      obtain ⟨rfl, rfl, rfl⟩ := hcs
      exact ⟨zs, .inr ⟨_, rfl, hl, hm, by simpa using hz, hcell, hwz⟩⟩
  clear hA0 hval0
  refine (walk f g a2 a3 a4 len4 cap4 z4 wf wg w2 w3 W w4).mono fun e W' ⟨he, hg⟩ => ?_
  subst he
  exact ⟨_, rfl, _, _, _, [], _, [], hW', trodAll_mk1 (shut_bool Try.underlying4 _), (trodAll_cons_mk (vectorOthers.shut16 wf) (trodAll_cons_mk (vectorOthers.shut16 wg) (trodAll_cons_mk (shut_int Try.underlying23 w2) (trodAll_cons_mk (shut_int Try.underlying23 w3) (trodAll_cons_mk (Below.trod laidOut (by kernel_rfl) (of_decide_eq_true (by kernel_rfl)) k4 hg lt4) trodAll_mk0))))), rfl, hg.frame _, fun h => by cases h⟩
theorem over : Rows.vectorWordsRow.holds Try.pinned (OpenSpec.ofChange Rows.vectorWordsSpec) :=
  OpenClaim.holds_of_wide 7 Try.f7 rfl rfl rfl rfl rfl rfl rfl ⟨rfl, rfl, rfl, rfl, rfl⟩ rfl rfl rfl rfl rfl (by kernel_rfl) Try.func7 (by kernel_rfl)
    (of_decide_eq_true (by kernel_rfl)) (by unfold Func.isWrapper; first | (rw [if_pos (by decide +kernel)]; kernel_rfl) | (rw [if_neg (by decide +kernel)]; exact ⟨rfl, rfl⟩))
    (fun os started H enc _ => lifted os started H enc)
theorem proved : Rows.VectorWordsSaid := over
#print axioms proved
end Go.Proofs.Yteonemnpbpiifaa.vectorWords
