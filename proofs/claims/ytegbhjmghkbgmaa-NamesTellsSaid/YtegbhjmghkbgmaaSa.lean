/- A stable sort of symbols by their addresses: mathematics alone. -/
import Derived.Test.YtegbhjmghkbgmaaNa
namespace Go.Proofs.Ytegbhjmghkbgmaa
open Go.RowKit Go.Shelf
set_option linter.unusedVariables false
set_option linter.unusedSimpArgs false
attribute [local go_sem] Oper.semAt_some
/-- Addresses rise. -/
def Up (l : List Sy) : Prop := l.Pairwise fun x y => x.2.1 ≤ y.2.1
/-- The same symbols, those of one address in the same order. -/
def SameK (l l' : List Sy) : Prop := ∀ c : Nat, l'.filter (fun s => s.2.1 == c) = l.filter (fun s => s.2.1 == c)
theorem SameK.refl (l : List Sy) : SameK l l := fun _ => rfl
theorem SameK.trans {a b c : List Sy} (h : SameK a b) (k : SameK b c) : SameK a c := fun x => (k x).trans (h x)
theorem SameK.symm {a b : List Sy} (h : SameK a b) : SameK b a := fun x => (h x).symm
theorem SameK.app {a a' b b' : List Sy} (h : SameK a a') (k : SameK b b') : SameK (a ++ b) (a' ++ b') := fun x => by rw [List.filter_append, List.filter_append, h x, k x]
theorem SameK.mem {a b : List Sy} (h : SameK a b) (s : Sy) : s ∈ b ↔ s ∈ a := by
  have hf : ∀ l : List Sy, s ∈ l ↔ s ∈ l.filter (fun x => x.2.1 == s.2.1) := fun l => by simp
  rw [hf b, hf a, h]
theorem ba_beq (a b : ByteArray) : (a == b) = true ↔ a = b := by
  obtain ⟨x⟩ := a
  obtain ⟨y⟩ := b
  constructor
  · intro h
    have h2 : (x == y) = true := h
    rw [eq_of_beq h2]
  · intro h
    cases h
    show (x == x) = true
    simp
instance lawfulBA : LawfulBEq ByteArray where
  eq_of_beq h := (ba_beq _ _).1 h
  rfl := (ba_beq _ _).2 rfl
theorem SameK.count {a b : List Sy} (h : SameK a b) (s : Sy) : b.count s = a.count s := by
  have hf : ∀ l : List Sy, (l.filter (fun x => x.2.1 == s.2.1)).count s = l.count s := fun l => List.count_filter (by simp)
  rw [← hf b, ← hf a, h]
theorem SameK.perm {a b : List Sy} (h : SameK a b) : b.Perm a := List.perm_iff_count.2 h.count
theorem SameK.len {a b : List Sy} (h : SameK a b) : b.length = a.length := h.perm.length_eq
/-- Two pieces that have no address in common may change places. -/
theorem SameK.swap {U V : List Sy} (h : ∀ x, x ∈ U → ∀ y, y ∈ V → y.2.1 ≠ x.2.1) : SameK (U ++ V) (V ++ U) := fun c => by
  rw [List.filter_append, List.filter_append]
  by_cases hu : U.filter (fun s => s.2.1 == c) = []
  · rw [hu, List.append_nil, List.nil_append]
  · by_cases hv : V.filter (fun s => s.2.1 == c) = []
    · rw [hv, List.append_nil, List.nil_append]
    · obtain ⟨x, hx⟩ := List.exists_mem_of_ne_nil _ hu
      obtain ⟨y, hy⟩ := List.exists_mem_of_ne_nil _ hv
      simp only [List.mem_filter, beq_iff_eq] at hx hy
      exact absurd (hy.2.trans hx.2.symm) (h x hx.1 y hy.1)
theorem Up.unique : ∀ {l l' : List Sy}, Up l → Up l' → SameK l l' → l' = l := by
  intro l
  induction l with
  | nil => intro l' _ _ h; exact List.eq_nil_of_length_eq_zero h.len
  | cons x t ih =>
    intro l' hu hu' h
    cases l' with
    | nil => have := h.len; simp at this
    | cons y t' =>
      have hx := List.pairwise_cons.1 hu
      have hy := List.pairwise_cons.1 hu'
      have h1 : x.2.1 ≤ y.2.1 := by
        rcases List.mem_cons.1 ((h.mem y).1 (List.mem_cons_self ..)) with e | e
        · rw [e]; exact Nat.le_refl _
        · exact hx.1 y e
      have h2 : y.2.1 ≤ x.2.1 := by
        rcases List.mem_cons.1 ((h.mem x).2 (List.mem_cons_self ..)) with e | e
        · rw [e]; exact Nat.le_refl _
        · exact hy.1 x e
      have hk : x.2.1 = y.2.1 := Nat.le_antisymm h1 h2
      have hc := h x.2.1
      rw [List.filter_cons_of_pos (by simp [hk]), List.filter_cons_of_pos (by simp)] at hc
      have hxy := (List.cons.inj hc).1
      subst hxy
      have ht : SameK t t' := fun c => by
        have := h c
        by_cases e : y.2.1 = c
        · rw [List.filter_cons_of_pos (by simp [e]), List.filter_cons_of_pos (by simp [e])] at this
          exact (List.cons.inj this).2
        · rw [List.filter_cons_of_neg (by simp [e]), List.filter_cons_of_neg (by simp [e])] at this
          exact this
      rw [ih hx.2 hy.2 ht]
theorem Up.of_parts {a b : List Sy} (ha : Up a) (hb : Up b) (h : ∀ x, x ∈ a → ∀ y, y ∈ b → x.2.1 ≤ y.2.1) : Up (a ++ b) := List.pairwise_append.2 ⟨ha, hb, h⟩
theorem Up.parts {a b : List Sy} (h : Up (a ++ b)) : Up a ∧ Up b ∧ ∀ x, x ∈ a → ∀ y, y ∈ b → x.2.1 ≤ y.2.1 := List.pairwise_append.1 h
/-- The step of a merge by a rotation in the middle. -/
theorem merge_step {A1 A2 B1 B2 C1 C2 : List Sy} (hA : Up (A1 ++ A2)) (hB : Up (B1 ++ B2)) (h1 : ∀ x, x ∈ A2 → ∀ y, y ∈ B1 → y.2.1 < x.2.1) (h2 : ∀ x, x ∈ A1 → ∀ y, y ∈ B2 → x.2.1 ≤ y.2.1)
    (k1 : SameK (A1 ++ B1) C1) (u1 : Up C1) (k2 : SameK (A2 ++ B2) C2) (u2 : Up C2) : Up (C1 ++ C2) ∧ SameK ((A1 ++ A2) ++ (B1 ++ B2)) (C1 ++ C2) := by
  obtain ⟨a1, a2, a3⟩ := hA.parts
  obtain ⟨b1, b2, b3⟩ := hB.parts
  refine ⟨u1.of_parts u2 (fun x hx y hy => ?_), ?_⟩
  · have hx' := (k1.mem x).1 hx
    have hy' := (k2.mem y).1 hy
    rcases List.mem_append.1 hx' with hx' | hx' <;> rcases List.mem_append.1 hy' with hy' | hy'
    · exact a3 x hx' y hy'
    · exact h2 x hx' y hy'
    · exact Nat.le_of_lt (h1 y hy' x hx')
    · exact b3 x hx' y hy'
  · refine SameK.trans ?_ (k1.app k2)
    have hs : SameK (A2 ++ B1) (B1 ++ A2) := SameK.swap (fun x hx y hy e => by have := h1 x hx y hy; omega)
    have h3 : (A1 ++ A2) ++ (B1 ++ B2) = A1 ++ ((A2 ++ B1) ++ B2) := by simp
    have h4 : (A1 ++ B1) ++ (A2 ++ B2) = A1 ++ ((B1 ++ A2) ++ B2) := by simp
    rw [h3, h4]
    exact (SameK.refl A1).app (hs.app (SameK.refl B2))
/-- One piece of a list becomes another one. -/
def Seg (L : List Sy) (a b : Nat) (C : List Sy) : List Sy := L.take a ++ C ++ L.drop b
theorem Seg_len {L C : List Sy} {a b : Nat} (hab : a ≤ b) (hb : b ≤ L.length) (hC : C.length = b - a) : (Seg L a b C).length = L.length := by
  unfold Seg
  rw [List.length_append, List.length_append, List.length_take, List.length_drop, hC]
  omega
/-- The piece of a list from a to b. -/
def cut (L : List Sy) (a b : Nat) : List Sy := (L.take b).drop a
theorem cut_len {L : List Sy} {a b : Nat} (hb : b ≤ L.length) : (cut L a b).length = b - a := by
  unfold cut
  rw [List.length_drop, List.length_take, Nat.min_eq_left hb]
theorem cut_at {L : List Sy} {a b j : Nat} (h : a + j < b) : (cut L a b)[j]? = L[a + j]? := by
  unfold cut
  rw [List.getElem?_drop, List.getElem?_take_of_lt h]
theorem cut_app {L : List Sy} {a m b : Nat} (ham : a ≤ m) (hmb : m ≤ b) : cut L a b = cut L a m ++ cut L m b := by
  unfold cut
  apply List.ext_getElem?
  intro j
  by_cases hj : a + j < m
  · by_cases hL : a + j < L.length
    · rw [List.getElem?_append_left (by rw [List.length_drop, List.length_take]; omega), List.getElem?_drop, List.getElem?_drop, List.getElem?_take_of_lt (by omega), List.getElem?_take_of_lt hj]
    · rw [List.getElem?_eq_none (by rw [List.length_drop, List.length_take]; omega), List.getElem?_eq_none (by rw [List.length_append, List.length_drop, List.length_drop, List.length_take, List.length_take]; omega)]
  · by_cases hL : m ≤ L.length
    · rw [List.getElem?_append_right (by rw [List.length_drop, List.length_take]; omega), List.length_drop, List.length_take, Nat.min_eq_left hL, List.getElem?_drop, List.getElem?_drop, show m + (j - (m - a)) = a + j by omega]
    · rw [List.getElem?_eq_none (by rw [List.length_drop, List.length_take]; omega), List.getElem?_eq_none (by rw [List.length_append, List.length_drop, List.length_drop, List.length_take, List.length_take]; omega)]
theorem Seg_self {L : List Sy} {a b : Nat} (hab : a ≤ b) : Seg L a b (cut L a b) = L := by
  have h : L.take b = L.take a ++ cut L a b := by
    have := cut_app (L := L) (Nat.zero_le a) hab
    simpa [cut] using this
  unfold Seg
  rw [← h, List.take_append_drop]
end Go.Proofs.Ytegbhjmghkbgmaa
