/- dirt.Sub: what it tells. -/
import Derived.Test.YtaaflkjdcablcaaQ
namespace Go.Proofs.Ytaaflkjdcablcaa
open Go.RowKit Go.Shelf
set_option linter.unusedVariables false
set_option linter.unusedSimpArgs false
attribute [local go_sem] Oper.semAt_some
theorem pieces_right {lo hi : Nat} (hlo : U lo) (hhi : U hi) {x : Rg} (hx : x.1 ≤ x.2) (hu : U x.2) : ∀ y, y ∈ subR lo hi x → y.1 ≤ y.2 ∧ x.1 ≤ y.1 ∧ y.2 ≤ x.2 ∧ U y.1 ∧ U y.2 := fun y hy => by
  unfold subR at hy
  unfold U at *
  split at hy
  · obtain rfl := List.mem_singleton.1 hy
    omega
  · rename_i h
    rcases List.mem_append.1 hy with hy | hy
    · split at hy
      · obtain rfl := List.mem_singleton.1 hy
        simp only
        omega
      · cases hy
    · split at hy
      · obtain rfl := List.mem_singleton.1 hy
        simp only
        omega
      · cases hy
theorem pieces_has {lo hi : Nat} (hle : lo ≤ hi) {x : Rg} (hx : x.1 ≤ x.2) (hu : U x.2) (a : Nat) : hasL (subR lo hi x) a = (inR a x && !(decide (lo ≤ a) && decide (a ≤ hi))) := by
  have hm : hi < x.2 → (hi + 1) % 18446744073709551616 = hi + 1 := fun h => by unfold U at hu; omega
  unfold subR
  rw [Bool.eq_iff_iff]
  split
  · rename_i h
    rw [hasL_one]
    unfold inR
    simp only [Bool.and_eq_true, decide_eq_true_eq, Bool.not_eq_true', Bool.and_eq_false_iff, decide_eq_false_iff_not]
    omega
  · rename_i h
    rw [hasL_app]
    split <;> split <;> rename_i h1 h2 <;> simp only [hasL, List.any_cons, List.any_nil, inR, Bool.or_eq_true, Bool.and_eq_true, decide_eq_true_eq, Bool.not_eq_true', Bool.and_eq_false_iff, decide_eq_false_iff_not, Bool.false_eq_true, or_false, false_or] <;> (try rw [hm (by assumption)]) <;> first | omega | (constructor <;> intro h9 <;> first | exact h9.elim | omega)
theorem sub_has {lo hi : Nat} (hle : lo ≤ hi) : ∀ (zs : List Rg), OkL zs → (∀ r, r ∈ zs → r.1 ≤ r.2) → ∀ a, hasL (subL lo hi zs) a = (hasL zs a && !(decide (lo ≤ a) && decide (a ≤ hi)))
  | [], _, _, a => by simp [subL, hasL]
  | x :: zs, hz, hr, a => by
    have ih := sub_has hle zs (fun r h => hz r (List.mem_cons_of_mem _ h)) (fun r h => hr r (List.mem_cons_of_mem _ h)) a
    have e1 : subL lo hi (x :: zs) = subR lo hi x ++ subL lo hi zs := by simp [subL]
    have e2 : hasL (x :: zs) a = (inR a x || hasL zs a) := by simp [hasL]
    rw [e1, hasL_app, ih, pieces_has hle (hr x List.mem_cons_self) (hz x List.mem_cons_self).2 a, e2]
    cases inR a x <;> cases hasL zs a <;> simp
def lastH (js : List Rg) : Nat := zh js (js.length - 1)
theorem lastH_snoc (js : List Rg) (y : Rg) : lastH (js ++ [y]) = y.2 := by
  unfold lastH
  rw [List.length_append, List.length_singleton, Nat.add_sub_cancel]
  have h5 : (rAt (js ++ [y]) js.length).2 = y.2 := by rw [rAt_app_eq]
  exact h5
theorem apart_mono {b b' c c' : Nat} (h : apartB b c = true) (hb : b' ≤ b) (hc : c ≤ c') : apartB b' c' = true := by
  unfold apartB at *
  simp only [Bool.and_eq_true, decide_eq_true_eq] at *
  omega
theorem right_push {js : List Rg} {y : Rg} (h : rightL js = true) (hy : y.1 ≤ y.2) (ha : js.length = 0 ∨ apartB (lastH js) y.1 = true) : rightL (js ++ [y]) = true := by
  rw [rightL_snoc, h]
  have h1 : rightR y = true := decide_eq_true hy
  rw [h1]
  rcases ha with ha | ha
  · simp [ha]
  · have ha' : apartB (zh js (js.length - 1)) y.1 = true := ha
    simp [ha']
theorem right_apart {zs : List Rg} (h : rightL zs = true) {k : Nat} (hk : k + 1 < zs.length) : apartB (zh zs k) (zl zs (k + 1)) = true := by
  have := List.all_eq_true.1 h (k + 1) (List.mem_range.2 hk)
  unfold okAt at this
  simp at this
  exact this.2
theorem sub_right {lo hi : Nat} (hle : lo ≤ hi) {ms : List Rg} (hz : OkL ms) (hr : rightL ms = true) : ∀ k, k ≤ ms.length → rightL (subL lo hi (ms.take k)) = true ∧ (0 < (subL lo hi (ms.take k)).length → 0 < k ∧ lastH (subL lo hi (ms.take k)) ≤ zh ms (k - 1))
  | 0, _ => ⟨rfl, fun h => by simp [subL] at h⟩
  | k + 1, hk => by
    obtain ⟨ih1, ih2⟩ := sub_right hle hz hr k (by omega)
    have hxr := right_each hr (show k < ms.length by omega)
    have hu := z_ok hz (show k < ms.length by omega)
    have hap : 0 < (subL lo hi (ms.take k)).length → apartB (lastH (subL lo hi (ms.take k))) (zl ms k) = true := fun h => by
      obtain ⟨h0, h1⟩ := ih2 h
      have h2 := right_apart hr (show (k - 1) + 1 < ms.length by omega)
      rw [show k - 1 + 1 = k by omega] at h2
      exact apart_mono h2 h1 (Nat.le_refl _)
    have hx1 : (rAt ms k).1 = zl ms k := rfl
    have hx2 : (rAt ms k).2 = zh ms k := rfl
    rw [take_succ' ms k (by omega), subL_snoc, Nat.add_sub_cancel]
    rw [← hx1] at hap hxr
    rw [← hx2] at hxr ⊢
    have hu2 : U (rAt ms k).2 := hu.2
    generalize rAt ms k = x at *
    generalize subL lo hi (ms.take k) = js at *
    have hm : hi < x.2 → (hi + 1) % 18446744073709551616 = hi + 1 := fun h => by unfold U at hu2; omega
    have hor : ∀ c, x.1 ≤ c → js.length = 0 ∨ apartB (lastH js) c = true := fun c hc => by
      by_cases h0 : js.length = 0
      · exact .inl h0
      · exact .inr (apart_mono (hap (by omega)) (Nat.le_refl _) hc)
    unfold subR
    by_cases h : x.2 < lo ∨ hi < x.1
    · rw [if_pos h]
      exact ⟨right_push ih1 hxr (hor _ (Nat.le_refl _)), fun _ => ⟨by omega, by rw [lastH_snoc]; exact Nat.le_refl _⟩⟩
    · rw [if_neg h]
      by_cases h1 : x.1 < lo
      · rw [if_pos h1]
        have r1 : rightL (js ++ [(x.1, lo - 1)]) = true := right_push ih1 (by simp only; omega) (hor _ (Nat.le_refl _))
        by_cases h2 : hi < x.2
        · rw [if_pos h2, hm h2, ← List.append_assoc]
          refine ⟨right_push r1 (by simp only; omega) (.inr ?_), fun _ => ⟨by omega, by rw [lastH_snoc]; exact Nat.le_refl _⟩⟩
          rw [lastH_snoc]
          unfold apartB
          simp only [Bool.and_eq_true, decide_eq_true_eq]
          omega
        · rw [if_neg h2, List.append_nil]
          exact ⟨r1, fun _ => ⟨by omega, by rw [lastH_snoc]; simp only; omega⟩⟩
      · rw [if_neg h1, List.nil_append]
        by_cases h2 : hi < x.2
        · rw [if_pos h2, hm h2]
          exact ⟨right_push ih1 (by simp only; omega) (hor _ (by simp only; omega)), fun _ => ⟨by omega, by rw [lastH_snoc]; exact Nat.le_refl _⟩⟩
        · rw [if_neg h2, List.append_nil]
          refine ⟨ih1, fun h0 => ⟨by omega, ?_⟩⟩
          have := hap h0
          unfold apartB at this
          simp only [Bool.and_eq_true, decide_eq_true_eq] at this
          omega
/-- What Sub tells: ranges that may be, of what the one has and the other has not. -/
theorem sub_good {lo hi : Nat} (hle : lo ≤ hi) {zs ns : List Rg} (h : SubOf lo hi zs ns) : rightL ns = true ∧ ∀ a, hasL ns a = (hasL zs a && !(decide (lo ≤ a) && decide (a ≤ hi))) := by
  obtain ⟨ms, hs, rfl⟩ := h
  have h1 := (sub_right hle hs.ok hs.right ms.length (Nat.le_refl _)).1
  rw [List.take_length] at h1
  refine ⟨h1, fun a => ?_⟩
  rw [sub_has hle ms hs.ok (fun r hr => ?_), hs.has]
  obtain ⟨k, hk, rfl⟩ := mem_at hr
  exact right_each hs.right hk
end Go.Proofs.Ytaaflkjdcablcaa
