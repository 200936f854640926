/- dirt: of rows that may be, those of the same addresses are the same. -/
import Derived.Test.YtaaflkjdcablcaaM
namespace Go.Proofs.Ytaaflkjdcablcaa
open Go.RowKit Go.Shelf
set_option linter.unusedVariables false
set_option linter.unusedSimpArgs false
attribute [local go_sem] Oper.semAt_some
theorem zl_cons (x : Rg) (zs : List Rg) (k : Nat) : zl (x :: zs) (k + 1) = zl zs k := rfl
theorem zh_cons (x : Rg) (zs : List Rg) (k : Nat) : zh (x :: zs) (k + 1) = zh zs k := rfl
theorem right_cons {x : Rg} {zs : List Rg} (h : rightL (x :: zs) = true) : x.1 ≤ x.2 ∧ (0 < zs.length → apartB x.2 (zl zs 0) = true) ∧ rightL zs = true := by
  have hk : ∀ k, k < zs.length + 1 → okAt (x :: zs) k = true := fun k hk => List.all_eq_true.1 h k (List.mem_range.2 (by simpa using hk))
  refine ⟨?_, fun h0 => ?_, ?_⟩
  · have h1 := hk 0 (by omega)
    unfold okAt at h1
    simp only [Bool.and_eq_true, decide_eq_true_eq] at h1
    exact h1.1
  · have h1 := hk 1 (by omega)
    unfold okAt at h1
    simp only [Bool.and_eq_true, decide_eq_true_eq, Bool.or_eq_true] at h1
    rcases h1.2 with h2 | h2
    · simp at h2
    · exact h2
  · unfold rightL
    rw [List.all_eq_true]
    intro k hkk
    have hl := List.mem_range.1 hkk
    have h1 := hk (k + 1) (by omega)
    unfold okAt at h1 ⊢
    rw [zl_cons, zh_cons] at h1
    simp only [Bool.and_eq_true, decide_eq_true_eq, Bool.or_eq_true, beq_iff_eq] at h1 ⊢
    refine ⟨h1.1, ?_⟩
    rcases h1.2 with h2 | h2
    · omega
    · by_cases h0 : k = 0
      · exact .inl h0
      · right
        rw [show k + 1 - 1 = (k - 1) + 1 by omega, zh_cons] at h2
        exact h2
theorem has_cons (x : Rg) (zs : List Rg) (a : Nat) : hasL (x :: zs) a = (inR a x || hasL zs a) := by simp [hasL]
/-- What stands behind the first one stands apart from it. -/
theorem behind : ∀ (x : Rg) (zs : List Rg), rightL (x :: zs) = true → ∀ a, hasL zs a = true → x.2 + 1 < a
  | x, [], _, a, h => by simp [hasL] at h
  | x, y :: zs, hr, a, h => by
    obtain ⟨h1, h2, h3⟩ := right_cons hr
    have h4 := h2 (by simp)
    have e : zl (y :: zs) 0 = y.1 := rfl
    rw [e] at h4
    unfold apartB at h4
    simp only [Bool.and_eq_true, decide_eq_true_eq] at h4
    have hy := (right_cons h3).1
    rw [has_cons, Bool.or_eq_true] at h
    rcases h with h | h
    · unfold inR at h
      simp only [Bool.and_eq_true, decide_eq_true_eq] at h
      omega
    · have := behind y zs h3 a h
      omega
theorem one_row : ∀ (xs ys : List Rg), rightL xs = true → rightL ys = true → (∀ a, hasL xs a = hasL ys a) → xs = ys
  | [], [], _, _, _ => rfl
  | [], y :: ys, _, hr, h => by
    have h1 := h y.1
    have hy := (right_cons hr).1
    rw [has_cons] at h1
    simp [hasL, inR, hy] at h1
  | x :: xs, [], hr, _, h => by
    have h1 := h x.1
    have hx := (right_cons hr).1
    rw [has_cons] at h1
    simp [hasL, inR, hx] at h1
  | x :: xs, y :: ys, hx, hy, h => by
    obtain ⟨x1, _, x3⟩ := right_cons hx
    obtain ⟨y1, _, y3⟩ := right_cons hy
    have bx := behind x xs hx
    have by' := behind y ys hy
    have hh : ∀ a, (inR a x = true ∨ hasL xs a = true) ↔ (inR a y = true ∨ hasL ys a = true) := fun a => by
      have := h a
      rw [has_cons, has_cons] at this
      rw [← Bool.or_eq_true, ← Bool.or_eq_true, this]
    have hin : ∀ a (r : Rg), inR a r = true ↔ (r.1 ≤ a ∧ a ≤ r.2) := fun a r => by unfold inR; simp
    simp only [hin] at hh
    have e1 : x.1 = y.1 := by
      have h1 := (hh x.1).1 (.inl ⟨Nat.le_refl _, x1⟩)
      have h2 := (hh y.1).2 (.inl ⟨Nat.le_refl _, y1⟩)
      have h3 : y.1 ≤ x.1 := by
        rcases h1 with h1 | h1
        · omega
        · have := by' _ h1; omega
      have h4 : x.1 ≤ y.1 := by
        rcases h2 with h2 | h2
        · omega
        · have := bx _ h2; omega
      omega
    have e2 : x.2 = y.2 := by
      have h1 := (hh x.2).1 (.inl ⟨x1, Nat.le_refl _⟩)
      have h2 := (hh y.2).2 (.inl ⟨y1, Nat.le_refl _⟩)
      by_cases hlt : x.2 < y.2
      · have h3 := (hh (x.2 + 1)).2 (.inl ⟨by omega, by omega⟩)
        rcases h3 with h3 | h3
        · omega
        · have := bx _ h3; omega
      by_cases hgt : y.2 < x.2
      · have h3 := (hh (y.2 + 1)).1 (.inl ⟨by omega, by omega⟩)
        rcases h3 with h3 | h3
        · omega
        · have := by' _ h3; omega
      omega
    have ht : ∀ a, hasL xs a = hasL ys a := fun a => by
      rw [Bool.eq_iff_iff]
      constructor
      · intro h1
        have hb := bx a h1
        rcases (hh a).1 (.inr h1) with h2 | h2
        · omega
        · exact h2
      · intro h1
        have hb := by' a h1
        rcases (hh a).2 (.inr h1) with h2 | h2
        · omega
        · exact h2
    rw [one_row xs ys x3 y3 ht]
    congr 1
    exact Prod.ext e1 e2
end Go.Proofs.Ytaaflkjdcablcaa
