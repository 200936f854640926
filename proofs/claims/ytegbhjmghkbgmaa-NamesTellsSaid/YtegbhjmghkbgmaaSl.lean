/- slices.stable: blocks, and pairs of them: mathematics. -/
import Derived.Test.YtegbhjmghkbgmaaSe
namespace Go.Proofs.Ytegbhjmghkbgmaa
open Go.RowKit Go.Shelf
set_option linter.unusedVariables false
set_option linter.unusedSimpArgs false
attribute [local go_sem] Oper.semAt_some
theorem next_mul {d x a : Nat} (hd : 0 < d) (hx : d ∣ x) (ha : d ∣ a) (h : x < a) : x + d ≤ a := by
  obtain ⟨k, rfl⟩ := hx
  obtain ⟨l, rfl⟩ := ha
  have hkl : k < l := Nat.lt_of_mul_lt_mul_left h
  have := Nat.mul_le_mul_left d hkl
  rw [Nat.mul_succ] at this
  exact this
/-- The block at x is sorted, stably. -/
def BlkAt (L0 Lc : List Sy) (d n x : Nat) : Prop := Up (cut Lc x (min (x + d) n)) ∧ SameK (cut L0 x (min (x + d) n)) (cut Lc x (min (x + d) n))
theorem BlkAt.far {L0 Lc L' : List Sy} {d n x a b : Nat} (h : BlkAt L0 Lc d n x) (ho : ∀ j, (j < a ∨ b ≤ j) → L'[j]? = Lc[j]?) (hx : x + d ≤ a) : BlkAt L0 L' d n x := by
  unfold BlkAt at *
  rw [cut_out (a' := x) (b' := min (x + d) n) ho (.inl (by omega))]
  exact h
theorem BlkAt.over {L0 Lc : List Sy} {d n x : Nat} (h : n ≤ x) : BlkAt L0 Lc d n x := by
  have e : ∀ L : List Sy, cut L x (min (x + d) n) = [] := fun L => by
    unfold cut
    exact List.drop_of_length_le (by rw [List.length_take]; omega)
  unfold BlkAt
  rw [e, e]
  exact ⟨List.Pairwise.nil, SameK.refl _⟩
theorem cut_same {L L' : List Sy} {a a' b' : Nat} (h : ∀ j, a ≤ j → L'[j]? = L[j]?) (ha : a ≤ a') : cut L' a' b' = cut L a' b' := by
  apply List.ext_getElem?
  intro j
  by_cases hj : a' + j < b'
  · rw [cut_at hj, cut_at hj, h _ (by omega)]
  · unfold cut
    rw [List.getElem?_drop, List.getElem?_drop, List.getElem?_take_eq_none (by omega), List.getElem?_take_eq_none (by omega)]
/-- All blocks are sorted. -/
structure All (L0 Lc : List Sy) (d n : Nat) : Prop where
  l0 : L0.length = n
  len : Lc.length = n
  blk : ∀ x, d ∣ x → BlkAt L0 Lc d n x
theorem All.whole {L0 Lc : List Sy} {d n : Nat} (h : All L0 Lc d n) (hn : n ≤ d) : Up Lc ∧ SameK L0 Lc := by
  have h1 := h.blk 0 (Nat.dvd_zero d)
  unfold BlkAt at h1
  rw [show min (0 + d) n = n by omega] at h1
  have e : ∀ L : List Sy, L.length = n → cut L 0 n = L := fun L hl => by
    unfold cut
    rw [List.drop_zero, ← hl, List.take_length]
  rw [e _ h.len, e _ h.l0] at h1
  exact h1
/-- The blocks ahead of a are sorted. -/
structure P1 (L0 Lc : List Sy) (d n a : Nat) : Prop where
  l0 : L0.length = n
  len : Lc.length = n
  dv : d ∣ a
  blk : ∀ x, d ∣ x → x < a → BlkAt L0 Lc d n x
  rest : ∀ j, a ≤ j → Lc[j]? = L0[j]?
theorem P1.start {L0 : List Sy} {d n : Nat} (h : L0.length = n) : P1 L0 L0 d n 0 := ⟨h, h, Nat.dvd_zero d, fun x _ hx => by omega, fun _ _ => rfl⟩
theorem P1.step {L0 Lc L' : List Sy} {d n a : Nat} (h : P1 L0 Lc d n a) (hd : 0 < d) (hb : a + d ≤ n) (hs : Srt Lc L' a (a + d)) : P1 L0 L' d n (a + d) := by
  refine ⟨h.l0, hs.len.trans h.len, Nat.dvd_add h.dv (Nat.dvd_refl d), fun x hx hlt => ?_, fun j hj => by rw [hs.out j (.inr hj), h.rest j (by omega)]⟩
  by_cases hxa : x < a
  · exact (h.blk x hx hxa).far hs.out (next_mul hd hx h.dv hxa)
  · have e : x = a := by
      rcases Nat.lt_or_ge a x with h1 | h1
      · have := next_mul hd h.dv hx h1
        omega
      · omega
    subst e
    unfold BlkAt
    rw [Nat.min_eq_left hb, ← cut_same h.rest (Nat.le_refl _)]
    exact ⟨hs.up, hs.same⟩
theorem P1.last {L0 Lc L' : List Sy} {d n a : Nat} (h : P1 L0 Lc d n a) (hd : 0 < d) (hn : n < a + d) (hs : Srt Lc L' a n) : All L0 L' d n := by
  refine ⟨h.l0, hs.len.trans h.len, fun x hx => ?_⟩
  by_cases hxa : x < a
  · exact (h.blk x hx hxa).far hs.out (next_mul hd hx h.dv hxa)
  · by_cases e : x = a
    · subst e
      unfold BlkAt
      rw [Nat.min_eq_right (by omega), ← cut_same h.rest (Nat.le_refl _)]
      exact ⟨hs.up, hs.same⟩
    · have := next_mul hd h.dv hx (by omega)
      exact BlkAt.over (by omega)
/-- The pairs of blocks ahead of a are merged. -/
structure P2 (L0 Lb Lc : List Sy) (d n a : Nat) : Prop where
  all : All L0 Lb d n
  len : Lc.length = n
  dv : 2 * d ∣ a
  blk : ∀ x, 2 * d ∣ x → x < a → BlkAt L0 Lc (2 * d) n x
  rest : ∀ j, a ≤ j → Lc[j]? = Lb[j]?
theorem P2.start {L0 Lb : List Sy} {d n : Nat} (h : All L0 Lb d n) : P2 L0 Lb Lb d n 0 := ⟨h, h.len, Nat.dvd_zero _, fun x _ hx => by omega, fun _ _ => rfl⟩
theorem P2.two {L0 Lb Lc : List Sy} {d n a : Nat} (h : P2 L0 Lb Lc d n a) (hm : a + d < n) : Up (cut Lc a (a + d)) ∧ Up (cut Lc (a + d) (min (a + 2 * d) n)) ∧ SameK (cut L0 a (min (a + 2 * d) n)) (cut Lc a (min (a + 2 * d) n)) := by
  have d1 : d ∣ a := Nat.dvd_trans (Nat.dvd_mul_left d 2) h.dv
  have h1 := h.all.blk a d1
  have h2 := h.all.blk (a + d) (Nat.dvd_add d1 (Nat.dvd_refl d))
  unfold BlkAt at h1 h2
  rw [Nat.min_eq_left (Nat.le_of_lt hm), ← cut_same h.rest (Nat.le_refl _)] at h1
  rw [show a + d + d = a + 2 * d by omega, ← cut_same h.rest (show a ≤ a + d by omega)] at h2
  refine ⟨h1.1, h2.1, ?_⟩
  rw [cut_app (L := L0) (a := a) (m := a + d) (by omega) (by omega), cut_app (L := Lc) (a := a) (m := a + d) (by omega) (by omega)]
  exact h1.2.app h2.2
theorem P2.step {L0 Lb Lc L' : List Sy} {d n a b : Nat} (h : P2 L0 Lb Lc d n a) (hd : 0 < d) (hm : a + d < n) (hb : min (a + 2 * d) n = b) (hs : Srt Lc L' a b) : P2 L0 Lb L' d n (a + 2 * d) := by
  refine ⟨h.all, hs.len.trans h.len, Nat.dvd_add h.dv (Nat.dvd_refl _), fun x hx hlt => ?_, fun j hj => by rw [hs.out j (.inr (by omega)), h.rest j (by omega)]⟩
  by_cases hxa : x < a
  · exact (h.blk x hx hxa).far hs.out (next_mul (by omega) hx h.dv hxa)
  · have e : x = a := by
      rcases Nat.lt_or_ge a x with h1 | h1
      · have := next_mul (by omega) h.dv hx h1
        omega
      · omega
    subst e
    have h3 := (h.two hm).2.2
    unfold BlkAt
    rw [hb] at h3 ⊢
    exact ⟨hs.up, h3.trans hs.same⟩
theorem P2.done {L0 Lb Lc : List Sy} {d n a : Nat} (h : P2 L0 Lb Lc d n a) (hd : 0 < d) (hn : n ≤ a + d) : All L0 Lc (2 * d) n := by
  refine ⟨h.all.l0, h.len, fun x hx => ?_⟩
  by_cases hxa : x < a
  · exact h.blk x hx hxa
  · by_cases e : x = a
    · subst e
      have h1 := h.all.blk x (Nat.dvd_trans (Nat.dvd_mul_left d 2) h.dv)
      unfold BlkAt at h1 ⊢
      rw [Nat.min_eq_right hn, ← cut_same h.rest (Nat.le_refl _)] at h1
      rw [Nat.min_eq_right (by omega)]
      exact h1
    · have := next_mul (by omega) h.dv hx (by omega)
      exact BlkAt.over (by omega)
end Go.Proofs.Ytegbhjmghkbgmaa
