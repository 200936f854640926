/- The reference's one: what its loop keeps. -/
import Derived.Test.YtaaflkjdcablcaaIm
namespace Go.Proofs.Ytaaflkjdcablcaa
open Go.RowKit Go.Shelf
set_option linter.unusedVariables false
set_option linter.unusedSimpArgs false
attribute [local go_sem] Oper.semAt_some
structure OneI (js : List Rg) (r0 : Rg) (k : Nat) (out : List Rg) (dn : Bool) (r : Rg) : Prop where
  ok : OkL out
  ur : U r.1 ∧ U r.2
  le : r.1 ≤ r.2
  last : dn = false → 0 < out.length → 0 < k ∧ lastH out ≤ zh js (k - 1)
  len : out.length ≤ k + (if dn then 1 else 0)
  right : rightL out = true
  no : dn = false → (0 < out.length → apartB (lastH out) r.1 = true) ∧ ∀ a, (hasL out a || inR a r) = (hasL (js.take k) a || inR a r0)
  yes : dn = true → (∀ q, k ≤ q → q < js.length → apartB r.2 (zl js q) = true) ∧ (0 < k ∧ 0 < out.length ∧ lastH out = zh js (k - 1)) ∧ ∀ a, hasL out a = (hasL (js.take k) a || inR a r0)
theorem OneI.start (js : List Rg) {r0 : Rg} (hu : U r0.1 ∧ U r0.2) (hl : r0.1 ≤ r0.2) : OneI js r0 0 [] false r0 :=
  ⟨fun r h => by simp at h, hu, hl, fun _ h => by simp at h, by simp, rfl, fun _ => ⟨fun h => by simp at h, fun a => by simp [hasL]⟩, fun h => by cases h⟩
theorem ok_snoc {out : List Rg} {x : Rg} (h : OkL out) (hx : U x.1 ∧ U x.2) : OkL (out ++ [x]) := fun r hr => by
  rcases List.mem_append.1 hr with hr | hr
  · exact h r hr
  · simp only [List.mem_cons, List.not_mem_nil, or_false] at hr
    subst hr; exact hx
section
variable {js : List Rg} {r0 : Rg} {k : Nat} {out : List Rg} {r : Rg}
theorem take_has (hk : k < js.length) (a : Nat) : hasL (js.take (k + 1)) a = (hasL (js.take k) a || inR a (rAt js k)) := by rw [take_succ' js k hk, hasL_app, hasL_one]
theorem x_le (hj : rightL js = true) (hk : k < js.length) : (rAt js k).1 ≤ (rAt js k).2 := right_each hj hk
theorem x_ok (ho : OkL js) (hk : k < js.length) : U (rAt js k).1 ∧ U (rAt js k).2 := z_ok ho hk
/-- What was put out stands apart from the next range. -/
theorem OneI.apart (h : OneI js r0 k out false r) (hj : rightL js = true) (hk : k < js.length) (h0 : 0 < out.length) : apartB (lastH out) (rAt js k).1 = true := by
  obtain ⟨h1, h2⟩ := h.last rfl h0
  have h3 := right_apart hj (show (k - 1) + 1 < js.length by omega)
  have h4 : k - 1 + 1 = k := by omega
  rw [h4] at h3
  exact apart_mono h3 h2 (Nat.le_refl _)
theorem OneI.s1 (h : OneI js r0 k out false r) (ho : OkL js) (hj : rightL js = true) (hk : k < js.length) (ha : apartB (rAt js k).2 r.1 = true) : OneI js r0 (k + 1) (out ++ [rAt js k]) false r := by
  refine ⟨ok_snoc h.ok (x_ok ho hk), h.ur, h.le, fun _ _ => ⟨by omega, by rw [lastH_snoc]; exact Nat.le_refl _⟩, by have := h.len; rw [List.length_append]; simp at *; omega, right_push h.right (x_le hj hk) ?_, fun _ => ⟨fun _ => by rw [lastH_snoc]; exact ha, fun a => ?_⟩, fun h => by cases h⟩
  · by_cases h0 : out.length = 0
    · exact .inl h0
    · exact .inr (h.apart hj hk (by omega))
  · rw [take_has hk, hasL_app, hasL_one]
    have := (h.no rfl).2 a
    revert this
    cases hasL out a <;> cases inR a r <;> cases hasL (js.take k) a <;> cases inR a r0 <;> cases inR a (rAt js k) <;> simp
theorem OneI.later (hj : rightL js = true) (hk : k < js.length) {b : Nat} (ha : apartB b (rAt js k).1 = true) : ∀ q, k ≤ q → q < js.length → apartB b (zl js q) = true := fun q h1 h2 => by
  by_cases e : k = q
  · subst e; exact ha
  · exact apart_mono ha (Nat.le_refl _) (Nat.le_of_lt (low_lt hj (show k < q by omega) h2))
theorem OneI.s2 (h : OneI js r0 k out false r) (ho : OkL js) (hj : rightL js = true) (hk : k < js.length) (ha : apartB r.2 (rAt js k).1 = true) : OneI js r0 (k + 1) (out ++ [r] ++ [rAt js k]) true r := by
  refine ⟨ok_snoc (ok_snoc h.ok h.ur) (x_ok ho hk), h.ur, h.le, (fun h => by cases h), by have := h.len; rw [List.length_append, List.length_append]; simp at *; omega, right_push (right_push h.right h.le ?_) (x_le hj hk) (.inr (by rw [lastH_snoc]; exact ha)), (fun h => by cases h), fun _ => ⟨fun q h1 h2 => OneI.later hj hk ha q (by omega) h2, ⟨by omega, by simp, by rw [lastH_snoc]; rfl⟩, fun a => ?_⟩⟩
  · by_cases h0 : out.length = 0
    · exact .inl h0
    · exact .inr ((h.no rfl).1 (by omega))
  · rw [take_has hk, hasL_app, hasL_one, hasL_app, hasL_one]
    have := (h.no rfl).2 a
    revert this
    cases hasL out a <;> cases inR a r <;> cases hasL (js.take k) a <;> cases inR a r0 <;> cases inR a (rAt js k) <;> simp
theorem OneI.dn (h : OneI js r0 k out true r) (hj : rightL js = true) (hk : k < js.length) : apartB (rAt js k).2 r.1 = false ∧ apartB r.2 (rAt js k).1 = true := by
  have h1 := (h.yes rfl).1 k (Nat.le_refl _) hk
  refine ⟨?_, h1⟩
  have h2 := h.le
  have h3 := x_le hj hk
  have e : zl js k = (rAt js k).1 := rfl
  rw [e] at h1
  unfold apartB at *
  simp only [Bool.and_eq_true, decide_eq_true_eq] at h1
  simp only [Bool.and_eq_false_iff, decide_eq_false_iff_not]
  omega
theorem OneI.s2' (h : OneI js r0 k out true r) (ho : OkL js) (hj : rightL js = true) (hk : k < js.length) : OneI js r0 (k + 1) (out ++ [rAt js k]) true r := by
  obtain ⟨h1, ⟨h2, h3, h4⟩, h5⟩ := h.yes rfl
  have h6 := right_apart hj (show (k - 1) + 1 < js.length by omega)
  have h7 : k - 1 + 1 = k := by omega
  rw [h7] at h6
  refine ⟨ok_snoc h.ok (x_ok ho hk), h.ur, h.le, (fun h => by cases h), by have := h.len; rw [List.length_append]; simp at *; omega, right_push h.right (x_le hj hk) (.inr (by rw [h4]; exact h6)), (fun h => by cases h), fun _ => ⟨fun q h1' h2' => h1 q (by omega) h2', ⟨by omega, by simp, by rw [lastH_snoc]; rfl⟩, fun a => ?_⟩⟩
  rw [take_has hk, hasL_app, hasL_one, h5]
  cases hasL (js.take k) a <;> cases inR a r0 <;> cases inR a (rAt js k) <;> rfl
theorem OneI.s3 (h : OneI js r0 k out false r) (ho : OkL js) (hj : rightL js = true) (hk : k < js.length) (ha : apartB (rAt js k).2 r.1 = false) (hb : apartB r.2 (rAt js k).1 = false) : OneI js r0 (k + 1) out false (min r.1 (rAt js k).1, max r.2 (rAt js k).2) := by
  have hx := x_le hj hk
  have hu := x_ok ho hk
  have hr := h.le
  have hur := h.ur
  have hap := h.apart hj hk
  have hno := (h.no rfl).1
  have hlast := h.last rfl
  have hl2 : 0 < out.length → lastH out ≤ zh js k := fun h0 => by
    have h1 := hap h0
    unfold apartB at h1
    simp only [Bool.and_eq_true, decide_eq_true_eq] at h1
    have e : zh js k = (rAt js k).2 := rfl
    omega
  have hth := take_has hk
  have hsum := (h.no rfl).2
  generalize rAt js k = x at *
  refine ⟨h.ok, ⟨by unfold U at *; dsimp only; omega, by unfold U at *; dsimp only; omega⟩, by dsimp only; omega, fun _ h0 => ⟨by omega, by rw [Nat.add_sub_cancel]; exact hl2 h0⟩, by have := h.len; simp at *; omega, h.right, fun _ => ⟨fun h0 => ?_, fun a => ?_⟩, fun h => by cases h⟩
  · have h1 := hap h0
    have h2 := hno h0
    unfold apartB at *
    simp only [Bool.and_eq_true, decide_eq_true_eq] at *
    omega
  · have e : inR a (min r.1 x.1, max r.2 x.2) = (inR a r || inR a x) := by
      rw [Bool.eq_iff_iff]
      unfold apartB at ha hb
      simp only [Bool.and_eq_false_iff, decide_eq_false_iff_not] at ha hb
      simp only [inR, Bool.or_eq_true, Bool.and_eq_true, decide_eq_true_eq]
      omega
    rw [hth, e]
    have := hsum a
    revert this
    cases hasL out a <;> cases inR a r <;> cases hasL (js.take k) a <;> cases inR a r0 <;> cases inR a x <;> simp
end
theorem OneI.fin {js : List Rg} {r0 : Rg} {out : List Rg} {r : Rg} (h : OneI js r0 js.length out false r) : OkL (out ++ [r]) ∧ rightL (out ++ [r]) = true ∧ (∀ a, hasL (out ++ [r]) a = (hasL js a || inR a r0)) ∧ (out ++ [r]).length ≤ js.length + 1 := by
  refine ⟨ok_snoc h.ok h.ur, right_push h.right h.le ?_, fun a => ?_, by have := h.len; rw [List.length_append]; simp at *; omega⟩
  · by_cases h0 : out.length = 0
    · exact .inl h0
    · exact .inr ((h.no rfl).1 (by omega))
  · rw [hasL_app, hasL_one, (h.no rfl).2 a, List.take_length]
theorem OneI.fin' {js : List Rg} {r0 : Rg} {out : List Rg} {r : Rg} (h : OneI js r0 js.length out true r) : OkL out ∧ rightL out = true ∧ (∀ a, hasL out a = (hasL js a || inR a r0)) ∧ out.length ≤ js.length + 1 :=
  ⟨h.ok, h.right, fun a => by rw [(h.yes rfl).2.2 a, List.take_length], by simpa using h.len⟩
end Go.Proofs.Ytaaflkjdcablcaa
