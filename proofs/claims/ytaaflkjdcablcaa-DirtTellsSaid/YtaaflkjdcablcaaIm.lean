/- In: what its loop finds. -/
import Derived.Test.YtaaflkjdcablcaaR
namespace Go.Proofs.Ytaaflkjdcablcaa
open Go.RowKit Go.Shelf
set_option linter.unusedVariables false
set_option linter.unusedSimpArgs false
attribute [local go_sem] Oper.semAt_some
/-- The place that is looked at for a lowest address. -/
def Adv (M : List Rg) (lo i j : Nat) : Prop := i ≤ j ∧ j ≤ M.length ∧ (∀ q, i ≤ q → q < j → zh M q < lo) ∧ (j < M.length → lo ≤ zh M j)
def fitsR (M : List Rg) (j : Nat) (x : Rg) : Bool := decide (j < M.length) && (decide (zl M j ≤ x.1) && decide (x.2 ≤ zh M j))
inductive InAt (M : List Rg) : List Rg → Nat → Prop
  | nil : InAt M [] 0
  | snoc {pre : List Rg} {x : Rg} {i j : Nat} : InAt M pre i → Adv M x.1 i j → fitsR M j x = true → InAt M (pre ++ [x]) j
def InNo (M : List Rg) (qs : List Rg) : Prop := ∃ pre x i j, qs = pre ++ [x] ∧ InAt M pre i ∧ Adv M x.1 i j ∧ fitsR M j x = false
theorem InAt.le {M pre : List Rg} {i : Nat} (h : InAt M pre i) : i ≤ M.length := by
  cases h with
  | nil => exact Nat.zero_le _
  | snoc _ ha _ => exact ha.2.1
theorem pre_at {pre ms : List Rg} {x : Rg} (h : pre ++ [x] <+: ms) : pre.length < ms.length ∧ rAt ms pre.length = x ∧ (∀ k, k < pre.length → rAt ms k = rAt pre k) := by
  obtain ⟨r, rfl⟩ := h
  refine ⟨by simp, ?_, fun k hk => ?_⟩
  · simp [rAt, zl, zh, List.getD]
  · unfold rAt zl zh
    simp only [List.getD, List.append_assoc, List.getElem?_append_left hk]
theorem has_at {M : List Rg} {a : Nat} : hasL M a = true ↔ ∃ j, j < M.length ∧ zl M j ≤ a ∧ a ≤ zh M j := by
  unfold hasL
  rw [List.any_eq_true]
  constructor
  · rintro ⟨r, hr, h⟩
    obtain ⟨j, hj, rfl⟩ := mem_at hr
    simp only [inR, Bool.and_eq_true, decide_eq_true_eq] at h
    exact ⟨j, hj, h.1, h.2⟩
  · rintro ⟨j, hj, h1, h2⟩
    exact ⟨rAt M j, at_mem hj, by simp only [inR, Bool.and_eq_true, decide_eq_true_eq]; exact ⟨h1, h2⟩⟩
/-- Behind a range that may be, the next ones begin later by two at the least. -/
theorem later {M : List Rg} (h : rightL M = true) {j : Nat} : ∀ q, j < q → q < M.length → zh M j + 1 < zl M q := by
  intro q hj hq
  induction q with
  | zero => omega
  | succ q ih =>
    have ha := right_apart h hq
    unfold apartB at ha
    simp only [Bool.and_eq_true, decide_eq_true_eq] at ha
    have hr := right_each h hq
    by_cases e : j = q
    · subst e; omega
    · have := ih (by omega) (by omega)
      have hr2 := right_each h (show q < M.length by omega)
      omega
theorem low_lt {M : List Rg} (h : rightL M = true) {j q : Nat} (hj : j < q) (hq : q < M.length) : zl M j < zl M q := by
  have h1 := later h q hj hq
  have h2 := right_each h (show j < M.length by omega)
  omega
/-- No range at or behind j, none ahead of it, has the address. -/
theorem no_at {M : List Rg} (hr : rightL M = true) {lo j : Nat} (h1 : ∀ q, q < j → zh M q < lo) (h2 : j < M.length → lo < zl M j) : hasL M lo = false := by
  rw [Bool.eq_false_iff]
  intro h
  obtain ⟨q, hq, h3, h4⟩ := has_at.1 h
  by_cases e : q < j
  · have := h1 q e; omega
  · by_cases e2 : q = j
    · subst e2; have := h2 hq; omega
    · have := low_lt hr (show j < q by omega) hq
      have := h2 (by omega)
      omega
structure Ins (M pre : List Rg) (i : Nat) : Prop where
  low : ∀ q, q < i → 0 < pre.length → zh M q < zl pre (pre.length - 1)
  z : pre.length = 0 → i = 0
  has : ∀ a, hasL pre a = true → hasL M a = true
theorem zl_snoc_last (pre : List Rg) (x : Rg) : zl (pre ++ [x]) ((pre ++ [x]).length - 1) = x.1 := by
  have e : (pre ++ [x]).length - 1 = pre.length := by simp
  rw [e]
  simp [zl, List.getD]
theorem adv_all {M ms pre : List Rg} {x : Rg} {i j : Nat} (hms : rightL ms = true) (hp : pre ++ [x] <+: ms) (h : Ins M pre i) (ha : Adv M x.1 i j) : ∀ q, q < j → zh M q < x.1 := by
  intro q hq
  by_cases hi : i ≤ q
  · exact ha.2.2.1 q hi hq
  · obtain ⟨p1, p2, p3⟩ := pre_at hp
    by_cases h0 : pre.length = 0
    · have := h.z h0; omega
    · have h1 := h.low q (by omega) (by omega)
      have h2 := low_lt hms (show pre.length - 1 < pre.length by omega) p1
      have e1 : zl ms pre.length = x.1 := by rw [← p2]; rfl
      have e2 : zl ms (pre.length - 1) = zl pre (pre.length - 1) := by
        have := congrArg Prod.fst (p3 (pre.length - 1) (by omega))
        exact this
      omega
theorem ins_of {M ms : List Rg} (hms : rightL ms = true) {pre : List Rg} {i : Nat} (h : InAt M pre i) : pre <+: ms → Ins M pre i := by
  induction h with
  | nil => exact fun _ => ⟨fun q hq => by omega, fun _ => rfl, fun a ha => by simp [hasL] at ha⟩
  | @snoc pre x i j h0 ha hf ih =>
    intro hp
    have hI := ih ((List.prefix_append _ _).trans hp)
    have hall := adv_all hms hp hI ha
    simp only [fitsR, Bool.and_eq_true, decide_eq_true_eq] at hf
    refine ⟨fun q hq _ => by rw [zl_snoc_last]; exact hall q hq, fun e => by simp at e, fun a hh => ?_⟩
    rw [hasL_app, Bool.or_eq_true] at hh
    rcases hh with hh | hh
    · exact hI.has a hh
    · rw [hasL_one] at hh
      simp only [inR, Bool.and_eq_true, decide_eq_true_eq] at hh
      exact has_at.2 ⟨j, hf.1, by omega, by omega⟩
theorem in_yes {M ms : List Rg} {i : Nat} (hms : rightL ms = true) (h : InAt M ms i) : ∀ a, hasL ms a = true → hasL M a = true := (ins_of hms h (List.prefix_refl _)).has
theorem in_no {M ms qs : List Rg} (hM : rightL M = true) (hms : rightL ms = true) (hq : qs <+: ms) (h : InNo M qs) : ¬ ∀ a, hasL ms a = true → hasL M a = true := by
  obtain ⟨pre, x, i, j, rfl, h0, ha, hf⟩ := h
  have hI := ins_of hms h0 ((List.prefix_append _ _).trans hq)
  have hall := adv_all hms hq hI ha
  obtain ⟨p1, p2, p3⟩ := pre_at hq
  have hx : x.1 ≤ x.2 := by
    have := right_each hms p1
    have e1 : zl ms pre.length = x.1 := by rw [← p2]; rfl
    have e2 : zh ms pre.length = x.2 := by rw [← p2]; rfl
    omega
  have hin : ∀ a, x.1 ≤ a → a ≤ x.2 → hasL ms a = true := fun a h1 h2 => has_at.2 ⟨pre.length, p1, by show (rAt ms pre.length).1 ≤ a; rw [p2]; exact h1, by show a ≤ (rAt ms pre.length).2; rw [p2]; exact h2⟩
  intro hsub
  by_cases hj : j < M.length
  · have hlo := ha.2.2.2 hj
    by_cases hz : zl M j ≤ x.1
    · have hh : ¬ x.2 ≤ zh M j := fun e => by
        have : fitsR M j x = true := by simp only [fitsR, Bool.and_eq_true, decide_eq_true_eq]; exact ⟨hj, hz, e⟩
        rw [this] at hf; cases hf
      have h1 := hsub (zh M j + 1) (hin _ (by omega) (by omega))
      obtain ⟨q, hq1, hq2, hq3⟩ := has_at.1 h1
      by_cases e : q < j
      · have := hall q e; omega
      · by_cases e2 : q = j
        · subst e2; omega
        · have := later hM q (show j < q by omega) hq1; omega
    · have h1 := hsub x.1 (hin _ (Nat.le_refl _) hx)
      rw [no_at hM hall (fun _ => by omega)] at h1
      cases h1
  · have h1 := hsub x.1 (hin _ (Nat.le_refl _) hx)
    rw [no_at hM hall (fun h => absurd h hj)] at h1
    cases h1
/-- What In answers. -/
def subB (zs z2 : List Rg) (t : Bool) : Prop := t = true ↔ ∀ a, hasL zs a = true → hasL z2 a = true
end Go.Proofs.Ytaaflkjdcablcaa
