/- What is told of the bytes that made makes: mathematics alone. -/
import Derived.Test.YtegbhjmghkbgmaaMc
import Derived.Test.YtegbhjmghkbgmaaRl
namespace Go.Proofs.Ytegbhjmghkbgmaa
open Go.RowKit Go.Shelf
set_option linter.unusedVariables false
set_option linter.unusedSimpArgs false
attribute [local go_sem] Oper.semAt_some
theorem entF_out {f : Nat → Nat} {o so : Nat} {s : En} {p q : Nat} (h : p + q ≤ o) : numZ (entF f o so s) p q = numZ f p q := by
  unfold entF
  rw [numZ_out (.inl (by omega)), numZ_out (.inl (by omega)), numZ_out (.inl (by omega)), numZ_out (.inl (by omega)), numZ_out (.inl (by omega))]
theorem entF_0 (f : Nat → Nat) (o so : Nat) (s : En) : numZ (entF f o so s) o 4 = so % 2 ^ (8 * 4) := by
  unfold entF
  rw [numZ_out (.inl (by omega)), numZ_out (.inl (by omega)), numZ_out (.inl (by omega)), numZ_out (.inl (by omega)), numZ_in]
theorem entF_4 (f : Nat → Nat) (o so : Nat) (s : En) : numZ (entF f o so s) (o + 4) 1 = s.2.1 % 2 ^ (8 * 1) := by
  unfold entF
  rw [numZ_out (.inl (by omega)), numZ_out (.inl (by omega)), numZ_out (.inl (by omega)), numZ_in]
theorem entF_6 (f : Nat → Nat) (o so : Nat) (s : En) : numZ (entF f o so s) (o + 6) 2 = s.2.2.1 % 2 ^ (8 * 2) := by
  unfold entF
  rw [numZ_out (.inl (by omega)), numZ_out (.inl (by omega)), numZ_in]
theorem entF_8 (f : Nat → Nat) (o so : Nat) (s : En) : numZ (entF f o so s) (o + 8) 8 = s.2.2.2.1 % 2 ^ (8 * 8) := by
  unfold entF
  rw [numZ_out (.inl (by omega)), numZ_in]
theorem entF_16 (f : Nat → Nat) (o so : Nat) (s : En) : numZ (entF f o so s) (o + 16) 8 = s.2.2.2.2 % 2 ^ (8 * 8) := by
  unfold entF
  rw [numZ_in]
theorem tab_at (l : List En) : ∀ m, m ≤ l.length → ∀ k, k < m → ∀ s, l[k]? = some s → numZ (tabF l m) (24 * (k + 1)) 4 = (strL (l.take k)).length % 2 ^ (8 * 4) ∧ numZ (tabF l m) (24 * (k + 1) + 4) 1 = s.2.1 % 2 ^ (8 * 1) ∧ numZ (tabF l m) (24 * (k + 1) + 6) 2 = s.2.2.1 % 2 ^ (8 * 2) ∧ numZ (tabF l m) (24 * (k + 1) + 8) 8 = s.2.2.2.1 % 2 ^ (8 * 8) ∧ numZ (tabF l m) (24 * (k + 1) + 16) 8 = s.2.2.2.2 % 2 ^ (8 * 8) := by
  intro m
  induction m with
  | zero => intro _ k hk; omega
  | succ m ih =>
    intro hm k hk s hs
    have hx := List.getElem?_eq_getElem (show m < l.length by omega)
    rw [tabF_succ hx]
    by_cases e : k = m
    · subst e
      rw [hs] at hx
      rw [← Option.some.inj hx]
      exact ⟨entF_0 _ _ _ _, entF_4 _ _ _ _, entF_6 _ _ _ _, entF_8 _ _ _ _, entF_16 _ _ _ _⟩
    · rw [entF_out (by omega), entF_out (by omega), entF_out (by omega), entF_out (by omega), entF_out (by omega)]
      exact ih (by omega) k (by omega) s hs
theorem nameL_at (b : ByteArray) (j : Nat) (h : j < b.size) : (nameL b)[j]? = some (b[j]'h).toNat := by
  unfold nameL
  have h2 : j < b.data.toList.length := by rw [Array.length_toList]; exact h
  rw [List.getElem?_map, List.getElem?_eq_getElem h2]
  rfl
theorem strL_split {l : List En} {k : Nat} {s : En} (h : l[k]? = some s) : ∃ r, strL l = strL (l.take k) ++ (nameL s.1 ++ 0 :: r) := by
  obtain ⟨hl, e⟩ := List.getElem?_eq_some_iff.1 h
  refine ⟨(l.drop (k + 1)).flatMap fun s => nameL s.1 ++ [0], ?_⟩
  have hd : l = l.take k ++ s :: l.drop (k + 1) := by
    rw [← e, ← List.drop_eq_getElem_cons hl, List.take_append_drop]
  unfold strL
  conv => lhs; rw [hd]
  simp
theorem st_name (nm : ByteArray) (z : Nat → Nat) (h : ∀ j (hj : j < nm.size), z j = (nm[j]'hj).toNat) : stN nm.size z = nm := by
  obtain ⟨d⟩ := nm
  unfold stN
  congr 1
  apply Array.ext'
  apply List.ext_getElem?
  intro j
  by_cases hj : j < d.size
  · have := h j hj
    have hj2 : j < d.toList.length := by rw [Array.length_toList]; exact hj
    rw [List.getElem?_eq_getElem hj2]
    have hj3 : j < (ByteArray.mk d).size := hj
    simp [hj3, this]
    rfl
  · have hj3 : ¬ j < (ByteArray.mk d).size := hj
    have hj2 : d.toList.length ≤ j := by rw [Array.length_toList]; omega
    rw [List.getElem?_eq_none hj2]
    simp
    exact Nat.not_lt.1 hj3
theorem name_at {l : List En} {k : Nat} {s : En} (h : l[k]? = some s) (hf : s.fine) {sz : Nat → Nat} (hs : ∀ j, j < (strL l).length → sz j = (strL l).getD j 0) (hz : ∀ j, sz j < 256) : nameZ sz (strL l).length (strL (l.take k)).length = some s.1 := by
  obtain ⟨r, hr⟩ := strL_split h
  have hlen : (strL l).length = (strL (l.take k)).length + (s.1.size + (r.length + 1)) := by
    rw [hr, List.length_append, List.length_append, nameL_len]
    simp
  have hat : ∀ j, j ≤ s.1.size → sz ((strL (l.take k)).length + j) = (nameL s.1 ++ 0 :: r).getD j 0 := fun j hj => by
    rw [hs _ (by omega), hr]
    rw [List.getD_eq_getElem?_getD, List.getElem?_append_right (by omega), Nat.add_sub_cancel_left, ← List.getD_eq_getElem?_getD]
  have h0 : sz ((strL (l.take k)).length + s.1.size) = 0 := by
    rw [hat _ (Nat.le_refl _), List.getD_eq_getElem?_getD, List.getElem?_append_right (by rw [nameL_len]; exact Nat.le_refl _), nameL_len, Nat.sub_self]
    rfl
  have h1 : ∀ j (hj : j < s.1.size), sz ((strL (l.take k)).length + j) = (s.1[j]'hj).toNat := fun j hj => by
    rw [hat _ (Nat.le_of_lt hj), List.getD_eq_getElem?_getD, List.getElem?_append_left (by rw [nameL_len]; exact hj), nameL_at _ _ hj]
    rfl
  unfold nameZ
  rw [if_pos (by omega)]
  generalize hP : (strL (l.take k)).length = P at *
  have hsp := idx_spec (z := shZ sz P) (fun j => hz _) ((strL l).length - P)
  rcases hsp with ⟨_, hno⟩ | ⟨i, he, hi, hi0, hib⟩
  · exact absurd h0 (hno s.1.size (by omega))
  · have e : i = s.1.size := by
      rcases Nat.lt_trichotomy i s.1.size with h | h | h
      · have := h1 i h
        have h2 : sz (P + i) = 0 := hi0
        rw [h2] at this
        exact absurd this.symm (hf.2 i h)
      · exact h
      · exact absurd h0 (hib s.1.size h)
    subst e
    rw [he]
    show some (stN s.1.size (shZ sz P)) = some s.1
    rw [st_name s.1 (shZ sz P) h1]
/-- The symbol that an entry is. -/
def En.sy (s : En) : Sy := (s.1, s.2.2.2.1, s.2.2.2.2, (s.2.1 % 16 == 2) && !(s.2.2.1 == 0))
theorem sym_at {l : List En} (hl : l.length ≤ 60) {k : Nat} {s : En} (h : l[k]? = some s) (hf : s.fine) (hok : s.ok) (hsz : ∀ x, x ∈ l → x.1.size ≤ 60) {tz sz : Nat → Nat} (ht : ∀ j, j < 24 * (l.length + 1) → tz j = tabF l l.length j) (hs : ∀ j, j < (strL l).length → sz j = (strL l).getD j 0) (hz : ∀ j, sz j < 256) : symZ tz sz (strL l).length k = some s.sy := by
  have hk := (List.getElem?_eq_some_iff.1 h).1
  obtain ⟨t0, t4, t6, t8, t16⟩ := tab_at l l.length (Nat.le_refl _) k hk s h
  have hP := strL_len (l := l.take k) (fun x hx => hsz x (List.mem_of_mem_take hx))
  rw [List.length_take] at hP
  obtain ⟨o1, o2, o3, o4⟩ := hok
  unfold U at o3 o4
  unfold symZ
  rw [numZ_congr (fun j h1 h2 => ht j (by omega)), numZ_congr (fun j h1 h2 => ht j (by omega)), numZ_congr (fun j h1 h2 => ht j (by omega)), numZ_congr (fun j h1 h2 => ht j (by omega)), numZ_congr (fun j h1 h2 => ht j (by omega)), t0, t4, t6, t8, t16]
  rw [Nat.mod_eq_of_lt (show (strL (l.take k)).length < 2 ^ (8 * 4) by omega), name_at h hf hs hz]
  rw [Nat.mod_eq_of_lt (show s.2.1 < 2 ^ (8 * 1) by omega), Nat.mod_eq_of_lt (show s.2.2.1 < 2 ^ (8 * 2) by omega), Nat.mod_eq_of_lt (show s.2.2.2.1 < 2 ^ (8 * 8) by omega), Nat.mod_eq_of_lt (show s.2.2.2.2 < 2 ^ (8 * 8) by omega)]
  rfl
theorem made_syms {l : List En} (hl : l.length ≤ 60) (hf : ∀ x, x ∈ l → x.fine) (hok : ∀ x, x ∈ l → x.ok) {tz sz : Nat → Nat} (ht : ∀ j, j < 24 * (l.length + 1) → tz j = tabF l l.length j) (hs : ∀ j, j < (strL l).length → sz j = (strL l).getD j 0) (hz : ∀ j, sz j < 256) : symsZ tz sz (strL l).length (List.range (rowsM (24 * (l.length + 1)))) = some (l.map En.sy) := by
  have hr : rowsM (24 * (l.length + 1)) = l.length := by unfold rowsM; omega
  rw [hr]
  have key : ∀ k, k ≤ l.length → symsZ tz sz (strL l).length (List.range k) = some ((l.take k).map En.sy) := by
    intro k
    induction k with
    | zero => intro _; rfl
    | succ k ih =>
      intro hk
      have hx := List.getElem?_eq_getElem (show k < l.length by omega)
      rw [List.range_succ, symsZ_snoc, ih (by omega), sym_at hl hx (hf _ (List.mem_of_getElem? hx)) (hok _ (List.mem_of_getElem? hx)) (fun x hx => (hf x hx).1) ht hs hz, List.take_add_one, hx, List.map_append]
      rfl
  have := key l.length (Nat.le_refl _)
  rwa [List.take_length] at this
end Go.Proofs.Ytegbhjmghkbgmaa
