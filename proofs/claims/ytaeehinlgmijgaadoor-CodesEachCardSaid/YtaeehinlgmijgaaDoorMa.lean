/- What the forms have in common. -/
import Derived.Test.YtaeehinlgmijgaaDoorFi
namespace Go.Proofs.YtaeehinlgmijgaaDoor
open Go.RowKit Go.Shelf
set_option linter.unusedVariables false
set_option linter.unusedSimpArgs false
def goodF (f : Fm) : Bool := (f.p == 0 || f.p == 0x66 || f.p == 0xf3) && decide (f.m ≤ 3) && (f.vec == (f.p != 0)) && (f.vec == (f.wide == 16)) && (f.deed != 0) && decide (f.o < 256)
theorem forms_good : formsL.all goodF = true := by kernel_rfl
theorem good_of {f : Fm} (h : f ∈ formsL) : goodF f = true := List.all_eq_true.1 forms_good f h
theorem stands_pm {f : Fm} {p m o : Nat} (h : standsZ f p m o = true) : f.p = p ∧ f.m = m := by
  unfold standsZ at h
  rw [eqB, eqB] at h
  simp only [Bool.and_eq_true, beq_iff_eq] at h
  exact ⟨h.1, h.2.1⟩
theorem fits_stands {f : Fm} {p m o : Nat} {d : Int} (h : fitsZ f p m o d = true) : standsZ f p m o = true := by
  unfold fitsZ at h
  simp only [Bool.and_eq_true] at h
  exact h.1
theorem findR_mem {h : Fm → Bool} (hr : (findR h).2 = true) : (findR h).1 ∈ formsL ∧ h (findR h).1 = true := by
  unfold findR at hr ⊢
  cases e : formsL.find? h with
  | none => rw [e] at hr; cases hr
  | some f => exact ⟨List.mem_of_find?_eq_some e, List.find?_some e⟩
theorem findR_no {h : Fm → Bool} (hr : (findR h).2 = false) : (findR h).1 = zf := by
  unfold findR at hr ⊢
  cases e : formsL.find? h with
  | none => rfl
  | some f => rw [e] at hr; cases hr
/-- Other prefixes, other maps: nothing is found. -/
theorem none_found {p m o : Nat} {d : Int} (hb : (p ≠ 0 ∧ p ≠ 0x66 ∧ p ≠ 0xf3) ∨ 3 < m) : (findR (fun f => fitsZ f p m o d)).2 = false ∧ formsL.any (digZ p m o) = false := by
  have key : ∀ f, f ∈ formsL → standsZ f p m o = false := fun f hf => by
    cases e : standsZ f p m o with
    | false => rfl
    | true =>
      obtain ⟨h1, h2⟩ := stands_pm e
      have hg := good_of hf
      unfold goodF at hg
      simp only [Bool.and_eq_true, Bool.or_eq_true, beq_iff_eq, decide_eq_true_eq] at hg
      omega
  constructor
  · cases e : (findR (fun f => fitsZ f p m o d)).2 with
    | false => rfl
    | true =>
      obtain ⟨h1, h2⟩ := findR_mem e
      have := key _ h1
      rw [fits_stands h2] at this
      cases this
  · rw [List.any_eq_false]
    intro f hf
    unfold digZ
    rw [key f hf]
    simp
theorem wake1 : findR (fun f => fitsZ f 0 0 0xc3 0) = (mkF 0 0 0xc3 false (-1) 27 0 8 0 0 false, true) := by kernel_rfl
theorem wake2 : findR (fun f => fitsZ f 0 0 0xc4 0) = (zf, false) := by kernel_rfl
theorem wake3 : findR (fun f => fitsZ f 0 0 0x83 5) = (mkF 0 0 0x83 false 5 8 0 0 4 1 false, true) := by kernel_rfl
theorem wake4 : formsL.any (digZ 0 0 0x83) = true := by kernel_rfl
theorem wake5 : formsL.any (digZ 0 0 0x89) = false := by kernel_rfl
end Go.Proofs.YtaeehinlgmijgaaDoor
