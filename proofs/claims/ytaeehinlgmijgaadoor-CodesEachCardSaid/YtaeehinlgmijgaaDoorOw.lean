/- The walk of CodesOne, every input: at most one form goes. -/
import Derived.Test.YtaeehinlgmijgaaDoorOn
namespace Go.Proofs.YtaeehinlgmijgaaDoor
open Go.RowKit
set_option linter.unusedVariables false
set_option linter.unusedSimpArgs false
def confl (f g : Fm) : Bool := f.p == g.p && f.m == g.m && (f.d == -1 || g.d == -1 || f.d == g.d) && (if f.plus || g.plus then f.o / 8 == g.o / 8 else f.o == g.o)
def apartL : List Fm → Bool
  | [] => true
  | f :: l => l.all (fun g => !confl f g) && apartL l
theorem apart_all : apartL formsL = true := by decide +kernel
theorem confl_of {f g : Fm} {p m o : Nat} {d : Int} (hf : fitsB f p m o d = true) (hg : fitsB g p m o d = true) : confl f g = true := by
  simp only [fitsB, standsB, opq, Bool.and_eq_true, Bool.or_eq_true, beq_iff_eq] at hf hg
  obtain ⟨⟨h1, h2, h3⟩, h4⟩ := hf
  obtain ⟨⟨g1, g2, g3⟩, g4⟩ := hg
  simp only [confl, Bool.and_eq_true, Bool.or_eq_true, beq_iff_eq]
  refine ⟨⟨⟨h1.trans g1.symm, h2.trans g2.symm⟩, ?_⟩, ?_⟩
  · rcases h4 with h4 | h4
    · exact .inl (.inl h4)
    · rcases g4 with g4 | g4
      · exact .inl (.inr g4)
      · exact .inr (h4.trans g4.symm)
  · cases hp : f.plus <;> cases gp : g.plus <;> rw [hp] at h3 <;> rw [gp] at g3 <;> simp at h3 g3 ⊢ <;> omega
theorem apart_filter : ∀ (L : List Fm) (h : Fm → Bool), apartL L = true → (∀ f g, f ∈ L → g ∈ L → h f = true → h g = true → confl f g = true) → (L.filter h).length ≤ 1
  | [], _, _, _ => by simp
  | f :: L, h, ha, hc => by
    simp only [apartL, Bool.and_eq_true, List.all_eq_true, Bool.not_eq_true'] at ha
    have ih := apart_filter L h ha.2 (fun a b x y => hc a b (List.mem_cons_of_mem _ x) (List.mem_cons_of_mem _ y))
    cases hf : h f
    · rw [List.filter_cons, if_neg (by simp [hf])]
      exact ih
    · have hn : L.filter h = [] := by
        rw [List.filter_eq_nil_iff]
        intro g hg e
        have h1 := hc f g List.mem_cons_self (List.mem_cons_of_mem _ hg) hf e
        rw [ha.1 g hg] at h1
        cases h1
      rw [List.filter_cons, if_pos hf, hn]
      simp
theorem good_o {f : Fm} (h : f ∈ formsL) : f.o < 256 := by
  have hg := good_of h
  simp only [goodF, Bool.and_eq_true, decide_eq_true_eq] at hg
  exact hg.2
theorem fits_le (p m o : Nat) (d : Int) (ho : o < 256) : (formsL.filter (fun f => fitsZ f p m o d)).length ≤ 1 :=
  apart_filter formsL _ apart_all fun f g hf hg h1 h2 => by
    rw [fitsZ_eq f p m o d (good_o hf) ho] at h1
    rw [fitsZ_eq g p m o d (good_o hg) ho] at h2
    exact confl_of h1 h2
theorem found_filter (h : Fm → Bool) (hl : (formsL.filter h).length ≤ 1) : cntK h 139 = (if (findR h).2 then 1 else 0) ∧ lastK h 139 = (findR h).1 := by
  unfold cntK lastK findR
  rw [take_all, ← List.head?_filter]
  match hF : formsL.filter h with
  | [] => simp
  | [a] => simp
  | a :: b :: l => rw [hF] at hl; simp at hl
theorem findR_z (h : Fm → Bool) : (findR h).1 ∈ zformsL := by
  cases hr : (findR h).2
  · rw [findR_no hr]; exact zf_z
  · exact mem_z (findR_mem hr).1
theorem one_walk (p m o d : Int) (hp : (Lit.int .u8 p).wf = true) (hm : (Lit.int .u8 m).wf = true) (ho : (Lit.int .u8 o).wf = true) (hd : (Lit.int .i64 d).wf = true) {w : World} (_W : World) (hG : GL w) :
    Calls Tryd.prog 4 #[.int .u8 p, .int .u8 m, .int .u8 o, .int .i64 d] w fun e w' => e = .returned (.bool true) ∧ Below w.heap.size w w' := by
  obtain ⟨p, rfl, hp1⟩ := nat_u8 hp
  obtain ⟨m, rfl, hm1⟩ := nat_u8 hm
  obtain ⟨o, rfl, ho1⟩ := nat_u8 ho
  exact one_core p m o d (fun d f => fitsZ f p m o d) (fun d => (findR (fun f => fitsZ f p m o d)).1) (fun d => (findR (fun f => fitsZ f p m o d)).2)
    (fun d => Lib.hid fun f w => fits_any f p m o d w) (fun d => Lib.hid fun w hG => find_any p m o d w hG)
    (fun d => (found_filter _ (fits_le p m o d ho1)).1) (fun d => (found_filter _ (fits_le p m o d ho1)).2) (fun d => findR_z _) w hG
end Go.Proofs.YtaeehinlgmijgaaDoor
