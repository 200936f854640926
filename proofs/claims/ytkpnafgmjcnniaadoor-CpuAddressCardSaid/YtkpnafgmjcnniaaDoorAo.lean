/- The walk of CpuAddress, every input. -/
import Derived.Test.YtkpnafgmjcnniaaDoorAn
namespace Go.Proofs.YtkpnafgmjcnniaaDoor
open Go.RowKit
set_option linter.unusedVariables false
set_option linter.unusedSimpArgs false
theorem address11_walk (c : Array Value) (k r b i s d : Int) (p : Bool) (m x y : Int) (hF : CPUF c) (_h0 : (Lit.int .u8 k).wf = true) (_h1 : (Lit.int .i64 r).wf = true) (_h2 : (Lit.int .i64 b).wf = true) (_h3 : (Lit.int .i64 i).wf = true) (_h4 : (Lit.int .i64 s).wf = true) (hd : (Lit.int .i64 d).wf = true) (_h7 : (Lit.int .i64 m).wf = true)
    (hx : (Lit.int .u64 x).wf = true) (hy : (Lit.int .u64 y).wf = true) {w : World} (_W : World) (hm : Mk w) :
    Calls Tryd.prog 11 #[.agg c, ov k r b i s d p m, .int .u64 x, .int .u64 y] w fun e w' => e = .returned (.bool true) ∧ Below w.heap.size w w' := by
  have hc := hF.cpu
  have bx := Go.bounds_u64 hx
  have by' := Go.bounds_u64 hy
  have bd := Go.bounds_i64 hd
  obtain ⟨X, rfl⟩ := Int.eq_ofNat_of_zero_le bx.1
  obtain ⟨Y, rfl⟩ := Int.eq_ofNat_of_zero_le by'.1
  by_cases hk : k = 2
  · subst hk
    have hR : ∀ W, Calls Tryd.prog 19 #[ov 2 r b i s d p m] W fun e w' => e = .returned (.bool (rB 2 r b i s d p m)) ∧ Below W.heap.size W w' := fun W => by
      rw [← rrB_eq 2 r b i s d p m (by omega) (by omega)]; exact rright_any 2 r b i s d p m W
    cases hr : rB 2 r b i s d p m
    · rw [hr] at hR
      exact adc_bad c hF.size r b i s d p m X Y w hm hr hR
    · rw [hr] at hR
      obtain ⟨rfl, rfl, b0, b1, i0, i1, hp⟩ := rB_parts hr
      have hA := fun W (hW : Mk W) => addr_all 0 b i s d p 0 X c (regN c) hc W hW hr
      have hL : ∀ W, Mk W → Calls Tryd.prog 27 #[.agg c, ov 2 0 b i s d p 0, .int .u64 (IntKind.u64.wrap ((X : Int) + (Y : Int)))] W fun e W' => e = .returned (.tuple #[.int .u64 (sumA (adL (regN c) p b i s d (uN ((X : Int) + (Y : Int))))), .int .i64 0]) ∧ Below W.heap.size W W' := fun W hW => by
        rw [uN_val]; exact addr_all 0 b i s d p 0 (uN ((X : Int) + (Y : Int))) c (regN c) hc W hW hr
      have hM : ∀ j : Nat, j < 16 → ∀ W, Mk W → Calls Tryd.prog 27 #[.agg (c.setIfInBounds j (.int .u64 (IntKind.u64.wrap ((regN c j : Int) + (Y : Int))))), ov 2 0 b i s d p 0, .int .u64 (X : Nat)] W fun e W' => e = .returned (.tuple #[.int .u64 (IntKind.u64.wrap (sumA (adL (regN c) p b i s d X) + mo b i s j Y)), .int .i64 0]) ∧ Below W.heap.size W W' := fun j hj W hW => by
        rw [← more_val (regN c) p b i s d X j Y b0 b1 i0 i1 hp hj, uN_val]
        exact addr_all 0 b i s d p 0 X _ _ (hc.set j _ hj (uN_U _)) W hW hr
      have hU : ∀ W, Calls Tryd.prog 22 #[ov 2 0 b i s d p 0] W fun e w' => ∃ sp cc, e = .returned (.slice sp (partL 2 b i).length cc) ∧ Below W.heap.size W w' := fun W =>
        (ruses_any 2 0 b i s d p 0 W).mono fun e w' ⟨⟨v, he, hv⟩, hb⟩ => by
          rcases hv.2 with ⟨rfl, h0⟩ | ⟨g, cap, cur, rfl, _⟩
          · rw [h0]; exact ⟨_, _, he, hb⟩
          · exact ⟨_, _, he, hb⟩
      cases p
      · rw [later_same (regN c) b i s d X (uN ((X : Int) + (Y : Int)))] at hL
        by_cases hn : (partL 2 b i).length = 0
        · have hbi : b = -1 ∧ i = -1 := by
            unfold partL at hn
            rw [if_pos rfl, List.length_append] at hn
            by_cases g1 : 0 ≤ b
            · rw [if_pos g1] at hn; simp at hn
            · by_cases g2 : 0 ≤ i
              · rw [if_pos g2] at hn; simp at hn
              · omega
          obtain ⟨rfl, rfl⟩ := hbi
          exact adc_f0 c (regN c) hc (-1) (-1) s d X Y _ _ _ w hm hA hL hM hR hU hn rfl (only_disp _ s d X)
        · exact adc_f1 c (regN c) hc b i s d X Y _ _ _ w hm hA hL hM hR hU (by rw [beq_eq_false_iff_ne]; omega) rfl
      · obtain ⟨rfl, rfl⟩ := hp rfl
        exact adc_t c (regN c) hc (-1) (-1) s d X Y _ _ _ w hm hA hL hM hR hU rfl (later_rip _ _ _ s d X Y)
  · exact adc_no c hF.size k r b i s d p m X Y w hm (by simpa using hk)
end Go.Proofs.YtkpnafgmjcnniaaDoor
