/- slices.symMerge: the general step, mathematics. -/
import Derived.Test.YtegbhjmghkbgmaaSg
namespace Go.Proofs.Ytegbhjmghkbgmaa
open Go.RowKit Go.Shelf
set_option linter.unusedVariables false
set_option linter.unusedSimpArgs false
attribute [local go_sem] Oper.semAt_some
/-- The middle is turned: L1 is L with the pieces from s to m and from m to e in each other's places. -/
structure Mid (L : List Sy) (s m e d : Nat) (L1 : List Sy) : Prop where
  len : L1.length = L.length
  out : ∀ j, (j < s ∨ e ≤ j) → L1[j]? = L[j]?
  r1 : cut L1 s d = cut L m e
  r2 : cut L1 d e = cut L s m
theorem Mid.no {L : List Sy} {s m e d : Nat} (hsm : s ≤ m) (hme : m ≤ e) (hd : s + (e - m) = d) (h : s = m ∨ e = m) : Mid L s m e d L := by
  refine ⟨rfl, fun _ _ => rfl, ?_, ?_⟩
  · rcases h with h | h
    · rw [h, show d = e by omega]
    · rw [h, show d = s by omega, cut_nil (Nat.le_refl _), cut_nil (Nat.le_refl _)]
  · rcases h with h | h
    · rw [h, show d = e by omega, cut_nil (Nat.le_refl _), cut_nil (Nat.le_refl _)]
    · rw [h, show d = s by omega]
def turned (L : List Sy) (s m e : Nat) : List Sy := L.take s ++ (cut L m e ++ (cut L s m ++ L.drop e))
theorem four (L : List Sy) {s m e : Nat} (hsm : s ≤ m) (hme : m ≤ e) : L = L.take s ++ (cut L s m ++ (cut L m e ++ L.drop e)) := by
  have h1 : L.take m = L.take s ++ cut L s m := by
    have := cut_app (L := L) (Nat.zero_le s) hsm
    simpa [cut] using this
  have h2 : L.take e = L.take m ++ cut L m e := by
    have := cut_app (L := L) (Nat.zero_le m) hme
    simpa [cut] using this
  have h3 : L = L.take e ++ L.drop e := (List.take_append_drop e L).symm
  rw [h2, h1, List.append_assoc, List.append_assoc] at h3
  exact h3
theorem turned_ro {L : List Sy} {s m e : Nat} (hsm : s ≤ m) (hme : m ≤ e) (he : e ≤ L.length) : RoI (turned L s m e) L m (m - s) (e - m) :=
  ⟨L.take s, cut L s m, cut L m e, L.drop e, four L hsm hme, rfl, by rw [List.length_take]; omega, by rw [cut_len (by omega)], by rw [cut_len he]⟩
theorem turned_mid {L : List Sy} {s m e d : Nat} (hsm : s ≤ m) (hme : m ≤ e) (he : e ≤ L.length) (hd : s + (e - m) = d) : Mid L s m e d (turned L s m e) := by
  have l1 : (L.take s).length = s := by rw [List.length_take]; omega
  have l2 : (cut L m e).length = e - m := cut_len he
  have l3 : (cut L s m).length = m - s := cut_len (by omega)
  have c0 : ∀ (P X S : List Sy), cut (P ++ (X ++ S)) P.length (P.length + X.length) = X := fun P X S => by
    unfold cut
    rw [← List.append_assoc, show P.length + X.length = (P ++ X).length by rw [List.length_append], List.take_left, List.drop_left]
  refine ⟨?_, fun j hj => ?_, ?_, ?_⟩
  · unfold turned
    simp only [List.length_append, l1, l2, l3, List.length_drop]
    omega
  · rcases hj with hj | hj
    · unfold turned
      rw [List.getElem?_append_left (by omega), List.getElem?_take_of_lt hj]
    · unfold turned
      rw [List.getElem?_append_right (by omega), List.getElem?_append_right (by omega), List.getElem?_append_right (by omega), l1, l2, l3, List.getElem?_drop]
      congr 1
      omega
  · have := c0 (L.take s) (cut L m e) (cut L s m ++ L.drop e)
    rw [l1, l2, hd] at this
    exact this
  · have := c0 (L.take s ++ cut L m e) (cut L s m) (L.drop e)
    rw [List.length_append, l1, l2, l3, hd, show d + (m - s) = e by omega, List.append_assoc] at this
    exact this
section
variable {L L1 L2 : List Sy} {a s m e d b : Nat}
theorem Mid.up1 (h : Mid L s m e d L1) (has : a ≤ s) (hsm : s ≤ m) (hme : m ≤ e) (heb : e ≤ b) (uA : Up (cut L a m)) (uB : Up (cut L m b)) : Up (cut L1 a s) ∧ Up (cut L1 s d) := by
  rw [cut_app has hsm] at uA
  rw [cut_app hme heb] at uB
  rw [h.r1, cut_out h.out (.inl (Nat.le_refl _))]
  exact ⟨uA.parts.1, uB.parts.1⟩
theorem Mid.no1 (h : Mid L s m e d L1) (has : a ≤ s) (hsm : s ≤ m) (hme : m ≤ e) (heb : e ≤ b) (hd : s + (e - m) = d) (uA : Up (cut L a m)) (uB : Up (cut L m b)) (hno : a = s ∨ s = d) : Srt L1 L1 a d := by
  obtain ⟨u1, u2⟩ := h.up1 has hsm hme heb uA uB
  refine ⟨rfl, fun _ _ => rfl, ?_, SameK.refl _⟩
  rcases hno with e1 | e1
  · rw [e1]; exact u2
  · rw [← e1]; exact u1
theorem Mid.up2 (h : Mid L s m e d L1) (has : a ≤ s) (hsm : s ≤ m) (hme : m ≤ e) (heb : e ≤ b) (hd : s + (e - m) = d) (uA : Up (cut L a m)) (uB : Up (cut L m b)) (h2 : Srt L1 L2 a d) : Up (cut L2 d e) ∧ Up (cut L2 e b) := by
  rw [cut_app has hsm] at uA
  rw [cut_app hme heb] at uB
  have e1 : cut L2 d e = cut L1 d e := cut_out h2.out (.inr (Nat.le_refl _))
  have e2 : cut L2 e b = cut L1 e b := cut_out h2.out (.inr (by omega))
  have e3 : cut L1 e b = cut L e b := cut_out h.out (.inr (Nat.le_refl _))
  rw [e1, e2, e3, h.r2]
  exact ⟨uA.parts.2.1, uB.parts.2.1⟩
theorem Mid.no2 (h : Mid L s m e d L1) (has : a ≤ s) (hsm : s ≤ m) (hme : m ≤ e) (heb : e ≤ b) (hd : s + (e - m) = d) (uA : Up (cut L a m)) (uB : Up (cut L m b)) (h2 : Srt L1 L2 a d) (hno : d = e ∨ e = b) : Srt L2 L2 d b := by
  obtain ⟨u1, u2⟩ := h.up2 has hsm hme heb hd uA uB h2
  refine ⟨rfl, fun _ _ => rfl, ?_, SameK.refl _⟩
  rcases hno with e1 | e1
  · rw [e1]; exact u2
  · rw [← e1]; exact u1
end
end Go.Proofs.Ytegbhjmghkbgmaa
