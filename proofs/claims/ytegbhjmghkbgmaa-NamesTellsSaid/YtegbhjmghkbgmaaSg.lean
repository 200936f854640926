/- slices.symMerge: mathematics. -/
import Derived.Test.YtegbhjmghkbgmaaSe
namespace Go.Proofs.Ytegbhjmghkbgmaa
open Go.RowKit Go.Shelf
set_option linter.unusedVariables false
set_option linter.unusedSimpArgs false
attribute [local go_sem] Oper.semAt_some
theorem Up.at {L : List Sy} (h : Up L) {i j : Nat} {x y : Sy} (hij : i ≤ j) (hx : L[i]? = some x) (hy : L[j]? = some y) : x.2.1 ≤ y.2.1 := by
  by_cases e : i = j
  · subst e
    rw [hx] at hy
    cases hy
    exact Nat.le_refl _
  · obtain ⟨h1, rfl⟩ := List.getElem?_eq_some_iff.1 hx
    obtain ⟨h2, rfl⟩ := List.getElem?_eq_some_iff.1 hy
    exact List.pairwise_iff_getElem.1 h i j h1 h2 (by omega)
theorem Up.cut_at {L : List Sy} {a b i j : Nat} (h : Up (cut L a b)) {x y : Sy} (hai : a ≤ i) (hij : i ≤ j) (hjb : j < b) (hx : L[i]? = some x) (hy : L[j]? = some y) : x.2.1 ≤ y.2.1 := by
  refine h.at (i := i - a) (j := j - a) (by omega) ?_ ?_
  · rw [Go.Proofs.Ytegbhjmghkbgmaa.cut_at (by omega), show a + (i - a) = i by omega, hx]
  · rw [Go.Proofs.Ytegbhjmghkbgmaa.cut_at (by omega), show a + (j - a) = j by omega, hy]
theorem mem_cut {L : List Sy} {a b : Nat} {x : Sy} (h : x ∈ cut L a b) : ∃ i, a ≤ i ∧ i < b ∧ L[i]? = some x := by
  obtain ⟨j, hj⟩ := List.getElem?_of_mem h
  have hl := (List.getElem?_eq_some_iff.1 hj).1
  unfold cut at hl
  rw [List.length_drop, List.length_take] at hl
  rw [Go.Proofs.Ytegbhjmghkbgmaa.cut_at (by omega)] at hj
  exact ⟨a + j, by omega, by omega, hj⟩
theorem cut_nil {L : List Sy} {a b : Nat} (h : b ≤ a) : cut L a b = [] := by
  unfold cut
  exact List.drop_of_length_le (by rw [List.length_take]; omega)
/-- The general step: what a rotation and two merges of halves make. -/
theorem Srt.merge {L L1 L2 L3 : List Sy} {a s m e d b : Nat} (has : a ≤ s) (hsm : s ≤ m) (hme : m ≤ e) (heb : e ≤ b) (hb : b ≤ L.length) (hd : s + (e - m) = d) (uA : Up (cut L a m)) (uB : Up (cut L m b))
    (h1 : ∀ x y, s < m → m < e → L[s]? = some x → L[e - 1]? = some y → y.2.1 < x.2.1) (h2 : ∀ x y, a < s → e < b → L[s - 1]? = some x → L[e]? = some y → x.2.1 ≤ y.2.1)
    (l1 : L1.length = L.length) (o1 : ∀ j, (j < s ∨ e ≤ j) → L1[j]? = L[j]?) (r1 : cut L1 s d = cut L m e) (r2 : cut L1 d e = cut L s m)
    (S2 : Srt L1 L2 a d) (S3 : Srt L2 L3 d b) : Srt L L3 a b := by
  have cA : cut L a m = cut L a s ++ cut L s m := cut_app has hsm
  have cB : cut L m b = cut L m e ++ cut L e b := cut_app hme heb
  have k1 : cut L1 a d = cut L a s ++ cut L m e := by rw [cut_app has (show s ≤ d by omega), r1, cut_out o1 (.inl (Nat.le_refl _))]
  have k2 : cut L1 d b = cut L s m ++ cut L e b := by rw [cut_app (show d ≤ e by omega) heb, r2, cut_out o1 (.inr (Nat.le_refl _))]
  have k3 : cut L2 d b = cut L1 d b := cut_out S2.out (.inr (Nat.le_refl _))
  have k4 : cut L3 a d = cut L2 a d := cut_out S3.out (.inl (Nat.le_refl _))
  have e2 := S2.same
  rw [k1] at e2
  have e3 := S3.same
  rw [k3, k2] at e3
  have u2 := S2.up
  have u3 := S3.up
  rw [cA] at uA
  rw [cB] at uB
  have st := merge_step uA uB (fun x hx y hy => ?_) (fun x hx y hy => ?_) e2 u2 e3 u3
  · have c3 : cut L3 a b = cut L2 a d ++ cut L3 d b := by rw [cut_app (show a ≤ d by omega) (show d ≤ b by omega), k4]
    have c0 : cut L a b = (cut L a s ++ cut L s m) ++ (cut L m e ++ cut L e b) := by rw [cut_app (show a ≤ m by omega) (show m ≤ b by omega), cA, cB]
    refine ⟨S3.len.trans (S2.len.trans l1), fun j hj => ?_, by rw [c3]; exact st.1, by rw [c0, c3]; exact st.2⟩
    rw [S3.out j (by omega), S2.out j (by omega), o1 j (by omega)]
  · obtain ⟨i, i1, i2, i3⟩ := mem_cut hx
    obtain ⟨j, j1, j2, j3⟩ := mem_cut hy
    obtain ⟨x0, hx0⟩ : ∃ x0, L[s]? = some x0 := ⟨L[s]'(by omega), List.getElem?_eq_getElem _⟩
    obtain ⟨y0, hy0⟩ : ∃ y0, L[e - 1]? = some y0 := ⟨L[e - 1]'(by omega), List.getElem?_eq_getElem _⟩
    have q1 := h1 x0 y0 (by omega) (by omega) hx0 hy0
    rw [← cA] at uA
    rw [← cB] at uB
    have q2 := uA.cut_at has i1 i2 hx0 i3
    have q3 := uB.cut_at j1 (show j ≤ e - 1 by omega) (by omega) j3 hy0
    omega
  · obtain ⟨i, i1, i2, i3⟩ := mem_cut hx
    obtain ⟨j, j1, j2, j3⟩ := mem_cut hy
    obtain ⟨x0, hx0⟩ : ∃ x0, L[s - 1]? = some x0 := ⟨L[s - 1]'(by omega), List.getElem?_eq_getElem _⟩
    obtain ⟨y0, hy0⟩ : ∃ y0, L[e]? = some y0 := ⟨L[e]'(by omega), List.getElem?_eq_getElem _⟩
    have q1 := h2 x0 y0 (by omega) (by omega) hx0 hy0
    rw [← cA] at uA
    rw [← cB] at uB
    have q2 := uA.cut_at i1 (show i ≤ s - 1 by omega) (by omega) i3 hx0
    have q3 := uB.cut_at hme j1 j2 hy0 j3
    omega
/-- What the loop has that moves x up. -/
def InsU (L : List Sy) (a k b : Nat) (Lk : List Sy) : Prop := ∃ P x A B S, Lk = P ++ (A ++ (x :: (B ++ S))) ∧ L = P ++ (x :: ((A ++ B) ++ S)) ∧ P.length = a ∧ a + A.length = k ∧ k + B.length + 1 = b ∧ ∀ y, y ∈ A → y.2.1 < x.2.1
theorem InsU.start {L : List Sy} {a b : Nat} (hab : a < b) (hb : b ≤ L.length) : InsU L a a b L := by
  have ha : a < L.length := by omega
  have e : L = L.take a ++ (L[a] :: (cut L (a + 1) b ++ L.drop b)) := by
    have h1 : L.take b = L.take (a + 1) ++ cut L (a + 1) b := by
      have := cut_app (L := L) (Nat.zero_le (a + 1)) (show a + 1 ≤ b by omega)
      simpa [cut] using this
    have h2 : L.take (a + 1) = L.take a ++ [L[a]] := by rw [List.take_add_one, List.getElem?_eq_getElem ha]; rfl
    have h3 : L = L.take b ++ L.drop b := (List.take_append_drop b L).symm
    rw [h1, h2, List.append_assoc, List.append_assoc] at h3
    exact h3
  refine ⟨L.take a, L[a], [], cut L (a + 1) b, L.drop b, ?_, ?_, by rw [List.length_take]; omega, by rfl, by rw [cut_len hb]; omega, fun y hy => by simp at hy⟩
  · rw [List.nil_append]; exact e
  · rw [List.nil_append]; exact e
theorem InsU.len {L Lk : List Sy} {a k b : Nat} (h : InsU L a k b Lk) : Lk.length = L.length ∧ a ≤ k ∧ k < b ∧ b ≤ Lk.length := by
  obtain ⟨P, x, A, B, S, rfl, rfl, h1, h2, h3, _⟩ := h
  simp only [List.length_append, List.length_cons]
  omega
theorem InsU.two {L Lk : List Sy} {a k b : Nat} (h : InsU L a k b Lk) (hk : k + 1 < b) : ∃ x y, Lk[k]? = some x ∧ Lk[k + 1]? = some y ∧ L[a]? = some x ∧ L[k + 1]? = some y ∧ (y.2.1 < x.2.1 → InsU L a (k + 1) b ((Lk.set k y).set (k + 1) x)) := by
  obtain ⟨P, x, A, B, S, rfl, rfl, h1, h2, h3, h4⟩ := h
  obtain ⟨y, B', rfl⟩ : ∃ y B', B = y :: B' := by
    cases B with
    | nil => simp at h3; omega
    | cons y B' => exact ⟨y, B', rfl⟩
  have e : P ++ (A ++ (x :: ((y :: B') ++ S))) = (P ++ A) ++ (x :: (y :: (B' ++ S))) := by simp
  have hl : (P ++ A).length = k := by rw [List.length_append]; omega
  have e2 : P ++ (x :: ((A ++ (y :: B')) ++ S)) = (P ++ (x :: A)) ++ (y :: (B' ++ S)) := by simp
  have hl2 : (P ++ (x :: A)).length = k + 1 := by simp only [List.length_append, List.length_cons]; omega
  refine ⟨x, y, ?_, ?_, ?_, ?_, fun hlt => ⟨P, x, A ++ [y], B', S, ?_, by simp, h1, by simp; omega, by simp at h3; omega, fun z hz => ?_⟩⟩
  · rw [e, List.getElem?_append_right (by omega), hl, Nat.sub_self]
    rfl
  · rw [e, List.getElem?_append_right (by omega), hl, Nat.add_sub_cancel_left]
    rfl
  · rw [List.getElem?_append_right (by omega), h1, Nat.sub_self]
    rfl
  · rw [e2, List.getElem?_append_right (by omega), hl2, Nat.sub_self]
    rfl
  · rw [e]
    have s1 : ((P ++ A) ++ (x :: (y :: (B' ++ S)))).set k y = (P ++ A) ++ (y :: (y :: (B' ++ S))) := by
      rw [List.set_append_right _ _ (by omega), hl, Nat.sub_self]
      rfl
    rw [s1, List.set_append_right _ _ (by omega), hl, Nat.add_sub_cancel_left]
    simp
  · rcases List.mem_append.1 hz with hz | hz
    · exact h4 z hz
    · rw [List.mem_singleton.1 hz]
      exact hlt
theorem InsU.done {L Lk : List Sy} {a k b : Nat} (h : InsU L a k b Lk) (hB : Up (cut L (a + 1) b)) (hge : ∀ x y, k + 1 < b → L[a]? = some x → L[k + 1]? = some y → x.2.1 ≤ y.2.1) : Srt L Lk a b := by
  obtain ⟨P, x, A, B, S, rfl, rfl, h1, h2, h3, h4⟩ := h
  have c1 : cut (P ++ (x :: ((A ++ B) ++ S))) a b = x :: (A ++ B) := by
    unfold cut
    have e0 : P ++ (x :: ((A ++ B) ++ S)) = P ++ ((x :: (A ++ B)) ++ S) := by simp
    rw [e0, List.take_append, List.drop_append, h1]
    have e1 : b - a = (x :: (A ++ B)).length := by simp only [List.length_append, List.length_cons]; omega
    rw [e1, List.take_left, List.length_take, h1, List.drop_of_length_le (by rw [List.length_take]; omega), Nat.min_eq_right (by omega), Nat.sub_self]
    rfl
  have c2 : cut (P ++ (A ++ (x :: (B ++ S)))) a b = A ++ (x :: B) := by
    unfold cut
    have e0 : P ++ (A ++ (x :: (B ++ S))) = P ++ ((A ++ (x :: B)) ++ S) := by simp
    rw [e0, List.take_append, List.drop_append, h1]
    have e1 : b - a = (A ++ (x :: B)).length := by simp only [List.length_append, List.length_cons]; omega
    rw [e1, List.take_left, List.length_take, h1, List.drop_of_length_le (by rw [List.length_take]; omega), Nat.min_eq_right (by omega), Nat.sub_self]
    rfl
  have c3 : cut (P ++ (x :: ((A ++ B) ++ S))) (a + 1) b = A ++ B := by
    have := cut_app (L := P ++ (x :: ((A ++ B) ++ S))) (a := a) (m := a + 1) (b := b) (by omega) (by omega)
    rw [c1] at this
    have hl : (cut (P ++ (x :: ((A ++ B) ++ S))) a (a + 1)).length = 1 := by
      rw [cut_len (by simp only [List.length_append, List.length_cons]; omega)]
      omega
    obtain ⟨z, hz⟩ := List.length_eq_one_iff.1 hl
    rw [hz] at this
    exact (List.cons.inj this).2.symm
  rw [c3] at hB
  obtain ⟨u1, u2, u3⟩ := hB.parts
  have hBx : ∀ y, y ∈ B → x.2.1 ≤ y.2.1 := by
    cases B with
    | nil => intro y hy; simp at hy
    | cons y0 B' =>
      have e2 : P ++ (x :: ((A ++ (y0 :: B')) ++ S)) = (P ++ (x :: A)) ++ (y0 :: (B' ++ S)) := by simp
      have hl2 : (P ++ (x :: A)).length = k + 1 := by simp only [List.length_append, List.length_cons]; omega
      have q := hge x y0 (by simp at h3; omega) (by rw [List.getElem?_append_right (by omega), h1, Nat.sub_self]; rfl) (by
        rw [e2, List.getElem?_append_right (by omega), hl2, Nat.sub_self]
        rfl)
      intro y hy
      rcases List.mem_cons.1 hy with rfl | hy
      · exact q
      · have := (List.pairwise_cons.1 u2).1 y hy
        omega
  refine ⟨by simp; omega, fun j hj => ?_, ?_, ?_⟩
  · rcases hj with hj | hj
    · rw [List.getElem?_append_left (by omega), List.getElem?_append_left (by omega)]
    · have e1 : P ++ (A ++ (x :: (B ++ S))) = (P ++ (A ++ (x :: B))) ++ S := by simp
      have e2 : P ++ (x :: ((A ++ B) ++ S)) = (P ++ (x :: (A ++ B))) ++ S := by simp
      have l1 : (P ++ (A ++ (x :: B))).length = b := by simp only [List.length_append, List.length_cons]; omega
      have l2 : (P ++ (x :: (A ++ B))).length = b := by simp only [List.length_append, List.length_cons]; omega
      rw [e1, e2, List.getElem?_append_right (by omega), List.getElem?_append_right (by omega), l1, l2]
  · rw [c2]
    refine u1.of_parts (List.pairwise_cons.2 ⟨hBx, u2⟩) (fun y hy z hz => ?_)
    rcases List.mem_cons.1 hz with rfl | hz
    · exact Nat.le_of_lt (h4 y hy)
    · exact u3 y hy z hz
  · rw [c1, c2]
    have hs : SameK ([x] ++ A) (A ++ [x]) := SameK.swap (fun y hy z hz e => by
      rw [List.mem_singleton.1 hy] at e
      have := h4 z hz
      omega)
    have h5 := hs.app (SameK.refl B)
    simpa using h5
end Go.Proofs.Ytegbhjmghkbgmaa
