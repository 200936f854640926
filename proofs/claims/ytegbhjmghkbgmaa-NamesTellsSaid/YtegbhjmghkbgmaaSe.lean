/- slices.insertionSort: mathematics. -/
import Derived.Test.YtegbhjmghkbgmaaSd
namespace Go.Proofs.Ytegbhjmghkbgmaa
open Go.RowKit Go.Shelf
set_option linter.unusedVariables false
set_option linter.unusedSimpArgs false
attribute [local go_sem] Oper.semAt_some
/-- From a to b the list is sorted, stably; elsewhere it is as it was. -/
structure Srt (L L' : List Sy) (a b : Nat) : Prop where
  len : L'.length = L.length
  out : ∀ j, (j < a ∨ b ≤ j) → L'[j]? = L[j]?
  up : Up (cut L' a b)
  same : SameK (cut L a b) (cut L' a b)
theorem cut_out {L L' : List Sy} {a b a' b' : Nat} (h : ∀ j, (j < a ∨ b ≤ j) → L'[j]? = L[j]?) (ho : b' ≤ a ∨ b ≤ a') : cut L' a' b' = cut L a' b' := by
  apply List.ext_getElem?
  intro j
  by_cases hj : a' + j < b'
  · rw [cut_at hj, cut_at hj, h _ (by omega)]
  · unfold cut
    rw [List.getElem?_drop, List.getElem?_drop, List.getElem?_take_eq_none (by omega), List.getElem?_take_eq_none (by omega)]
theorem up_small {L : List Sy} (h : L.length ≤ 1) : Up L := by
  match L, h with
  | [], _ => exact List.Pairwise.nil
  | [x], _ => exact List.pairwise_singleton _ _
theorem Srt.refl (L : List Sy) {a b : Nat} (h : b ≤ a + 1) (hb : b ≤ L.length) : Srt L L a b := ⟨rfl, fun _ _ => rfl, up_small (by rw [cut_len hb]; omega), SameK.refl _⟩
/-- What the inner loop has: x is on its way down. -/
def InsJ (Li : List Sy) (a i j : Nat) (Lj : List Sy) : Prop := ∃ P A x B S, Lj = P ++ (A ++ (x :: (B ++ S))) ∧ Li = P ++ ((A ++ B) ++ (x :: S)) ∧ P.length = a ∧ a + A.length = j ∧ j + B.length = i ∧ ∀ y, y ∈ B → x.2.1 < y.2.1
theorem InsJ.start {L : List Sy} {a i : Nat} (hai : a ≤ i) (hi : i < L.length) : InsJ L a i i L := by
  have e : L = L.take a ++ (cut L a i ++ (L[i] :: L.drop (i + 1))) := by
    have h1 : L.take i = L.take a ++ cut L a i := by
      have := cut_app (L := L) (Nat.zero_le a) hai
      simpa [cut] using this
    rw [← List.append_assoc, ← h1, ← List.drop_eq_getElem_cons hi, List.take_append_drop]
  refine ⟨L.take a, cut L a i, L[i], [], L.drop (i + 1), ?_, ?_, by rw [List.length_take]; omega, by rw [cut_len (by omega)]; omega, rfl, fun y hy => by simp at hy⟩
  · rw [List.nil_append]; exact e
  · rw [List.append_nil]; exact e
theorem InsJ.len {Li Lj : List Sy} {a i j : Nat} (h : InsJ Li a i j Lj) : Lj.length = Li.length ∧ a ≤ j ∧ j ≤ i ∧ i < Lj.length := by
  obtain ⟨P, A, x, B, S, rfl, rfl, h1, h2, h3, _⟩ := h
  simp only [List.length_append, List.length_cons]
  omega
/-- What stands at j, and ahead of it. -/
theorem InsJ.two {Li Lj : List Sy} {a i j : Nat} (h : InsJ Li a i j Lj) (hj : a < j) : ∃ x y, Lj[j]? = some x ∧ Lj[j - 1]? = some y ∧ (x.2.1 < y.2.1 → InsJ Li a i (j - 1) ((Lj.set j y).set (j - 1) x)) := by
  obtain ⟨P, A, x, B, S, rfl, rfl, h1, h2, h3, h4⟩ := h
  have hne : A ≠ [] := fun e => by rw [e] at h2; simp at h2; omega
  obtain ⟨A', y, rfl⟩ : ∃ A' y, A = A' ++ [y] := ⟨A.dropLast, A.getLast hne, (List.dropLast_concat_getLast hne).symm⟩
  rw [List.length_append, List.length_singleton] at h2
  have e : P ++ ((A' ++ [y]) ++ (x :: (B ++ S))) = (P ++ A') ++ (y :: (x :: (B ++ S))) := by simp
  have hl : (P ++ A').length = j - 1 := by rw [List.length_append]; omega
  have hy : (P ++ ((A' ++ [y]) ++ (x :: (B ++ S))))[j - 1]? = some y := by
    rw [e, List.getElem?_append_right (by omega), hl, Nat.sub_self]
    rfl
  have hx : (P ++ ((A' ++ [y]) ++ (x :: (B ++ S))))[j]? = some x := by
    rw [e, List.getElem?_append_right (by omega), hl, show j - (j - 1) = 1 by omega]
    rfl
  refine ⟨x, y, hx, hy, fun hlt => ⟨P, A', x, y :: B, S, ?_, by simp, h1, by omega, by rw [List.length_cons]; omega, fun z hz => ?_⟩⟩
  · rw [e]
    have s1 : ((P ++ A') ++ (y :: (x :: (B ++ S)))).set j y = (P ++ A') ++ (y :: (y :: (B ++ S))) := by
      rw [List.set_append_right _ _ (by omega), hl, show j - (j - 1) = 1 by omega]
      rfl
    rw [s1, List.set_append_right _ _ (by omega), hl, Nat.sub_self]
    simp
  · rcases List.mem_cons.1 hz with rfl | hz
    · exact hlt
    · exact h4 z hz
/-- The inner loop is done. -/
theorem InsJ.done {L Li Lj : List Sy} {a i j : Nat} (h : InsJ Li a i j Lj) (hs : Srt L Li a i) (he : j = a ∨ ∃ x y, Lj[j]? = some x ∧ Lj[j - 1]? = some y ∧ a < j ∧ ¬ x.2.1 < y.2.1) : Srt L Lj a (i + 1) := by
  obtain ⟨P, A, x, B, S, rfl, rfl, h1, h2, h3, h4⟩ := h
  have c1 : cut (P ++ ((A ++ B) ++ (x :: S))) a i = A ++ B := by
    unfold cut
    rw [List.take_append, List.drop_append, h1]
    have e1 : i - a = (A ++ B).length := by rw [List.length_append]; omega
    rw [e1, List.take_left, List.length_take, h1, List.drop_of_length_le (by rw [List.length_take]; omega), Nat.min_eq_right (by omega), Nat.sub_self]
    rfl
  have c2 : cut (P ++ ((A ++ B) ++ (x :: S))) a (i + 1) = (A ++ B) ++ [x] := by
    unfold cut
    have e0 : P ++ ((A ++ B) ++ (x :: S)) = P ++ (((A ++ B) ++ [x]) ++ S) := by simp
    rw [e0, List.take_append, List.drop_append, h1]
    have e1 : i + 1 - a = ((A ++ B) ++ [x]).length := by simp only [List.length_append, List.length_singleton]; omega
    rw [e1, List.take_left, List.length_take, h1, List.drop_of_length_le (by rw [List.length_take]; omega), Nat.min_eq_right (by omega), Nat.sub_self]
    rfl
  have c3 : cut (P ++ (A ++ (x :: (B ++ S)))) a (i + 1) = A ++ (x :: B) := by
    unfold cut
    have e0 : P ++ (A ++ (x :: (B ++ S))) = P ++ ((A ++ (x :: B)) ++ S) := by simp
    rw [e0, List.take_append, List.drop_append, h1]
    have e1 : i + 1 - a = (A ++ (x :: B)).length := by simp only [List.length_append, List.length_cons]; omega
    rw [e1, List.take_left, List.length_take, h1, List.drop_of_length_le (by rw [List.length_take]; omega), Nat.min_eq_right (by omega), Nat.sub_self]
    rfl
  have hup := hs.up
  rw [c1] at hup
  obtain ⟨u1, u2, u3⟩ := hup.parts
  have hA : ∀ y, y ∈ A → y.2.1 ≤ x.2.1 := by
    rcases he with e | ⟨x', y', hx', hy', haj, hno⟩
    · have : A = [] := List.eq_nil_of_length_eq_zero (by omega)
      rw [this]
      intro y hy
      simp at hy
    · have hne : A ≠ [] := fun e => by rw [e] at h2; simp at h2; omega
      obtain ⟨A', y, rfl⟩ : ∃ A' y, A = A' ++ [y] := ⟨A.dropLast, A.getLast hne, (List.dropLast_concat_getLast hne).symm⟩
      rw [List.length_append, List.length_singleton] at h2
      have e : P ++ ((A' ++ [y]) ++ (x :: (B ++ S))) = (P ++ A') ++ (y :: (x :: (B ++ S))) := by simp
      have hl : (P ++ A').length = j - 1 := by rw [List.length_append]; omega
      rw [e, List.getElem?_append_right (by omega), hl, Nat.sub_self] at hy'
      rw [e, List.getElem?_append_right (by omega), hl, show j - (j - 1) = 1 by omega] at hx'
      simp at hx' hy'
      subst hx' hy'
      intro z hz
      rcases List.mem_append.1 hz with hz | hz
      · have := u1.parts.2.2 z hz y (by simp)
        omega
      · rw [List.mem_singleton.1 hz]
        omega
  refine ⟨by rw [← hs.len]; simp; omega, fun k hk => ?_, ?_, ?_⟩
  · rw [← hs.out k (by omega)]
    rcases hk with hk | hk
    · rw [List.getElem?_append_left (by omega), List.getElem?_append_left (by omega)]
    · have e1 : P ++ (A ++ (x :: (B ++ S))) = (P ++ (A ++ (x :: B))) ++ S := by simp
      have e2 : P ++ ((A ++ B) ++ (x :: S)) = (P ++ ((A ++ B) ++ [x])) ++ S := by simp
      have l1 : (P ++ (A ++ (x :: B))).length = i + 1 := by simp only [List.length_append, List.length_cons]; omega
      have l2 : (P ++ ((A ++ B) ++ [x])).length = i + 1 := by simp only [List.length_append, List.length_singleton]; omega
      rw [e1, e2, List.getElem?_append_right (by omega), List.getElem?_append_right (by omega), l1, l2]
  · rw [c3]
    refine u1.of_parts (List.pairwise_cons.2 ⟨fun y hy => Nat.le_of_lt (h4 y hy), u2⟩) (fun y hy z hz => ?_)
    rcases List.mem_cons.1 hz with rfl | hz
    · exact hA y hy
    · exact u3 y hy z hz
  · have s1 : cut L a (i + 1) = cut L a i ++ [x] := by
      rw [cut_app (L := L) (m := i) (by omega) (by omega)]
      have h5 : cut L i (i + 1) = cut (P ++ ((A ++ B) ++ (x :: S))) i (i + 1) := (cut_out hs.out (.inr (Nat.le_refl _))).symm
      have h6 := cut_app (L := P ++ ((A ++ B) ++ (x :: S))) (a := a) (m := i) (b := i + 1) (by omega) (by omega)
      rw [c2, c1] at h6
      rw [h5, ← List.append_cancel_left h6]
    rw [s1, c3]
    have hs2 := hs.same
    rw [c1] at hs2
    refine SameK.trans (hs2.app (SameK.refl [x])) ?_
    rw [List.append_assoc]
    refine (SameK.refl A).app ?_
    exact SameK.swap (V := [x]) (fun y hy z hz e => by
      rw [List.mem_singleton.1 hz] at e
      have := h4 y hy
      omega)
end Go.Proofs.Ytegbhjmghkbgmaa
