/- What Read tells of the rows of a table: mathematics alone. -/
import Derived.Test.YtegbhjmghkbgmaaM
namespace Go.Proofs.Ytegbhjmghkbgmaa
open Go.RowKit Go.Shelf
set_option linter.unusedVariables false
set_option linter.unusedSimpArgs false
attribute [local go_sem] Oper.semAt_some
/-- The name that stands at a place in so many bytes of strings. -/
def nameZ (sz : Nat → Nat) (sn o : Nat) : Option ByteArray := if o < sn then (match idxI (shZ sz o) (sn - o) with | .ofNat i => some (stN i (shZ sz o)) | .negSucc _ => none) else none
theorem NamedOf.name {sz : Nat → Nat} {sn o : Nat} {e : Ending} (hz : ∀ j, sz j < 256) (h : NamedOf sz sn o e) : e = match nameZ sz sn o with | some nm => .returned (.tuple #[.string nm, .bool true]) | none => .returned (.tuple #[.string ⟨#[]⟩, .bool false]) := by
  obtain ⟨h1, h2, h3⟩ := h
  unfold nameZ
  by_cases ho : o < sn
  · rw [if_pos ho]
    rcases idx_spec (z := shZ sz o) (fun j => hz _) (sn - o) with ⟨he, _⟩ | ⟨i, he, _⟩
    · rw [h2 ho he, he]
      rfl
    · rw [h3 i ho he, he]
  · rw [if_neg ho]
    exact h1 (by omega)
/-- The symbol that row k + 1 of a table is; none: its name has no end. -/
def symZ (tz sz : Nat → Nat) (sn k : Nat) : Option Sy := (nameZ sz sn (numZ tz (24 * (k + 1)) 4)).map fun nm => (nm, numZ tz (24 * (k + 1) + 8) 8, numZ tz (24 * (k + 1) + 16) 8, (numZ tz (24 * (k + 1) + 4) 1 % 16 == 2) && !(numZ tz (24 * (k + 1) + 6) 2 == 0))
/-- The symbols of the first rows; none: one of them has a name without an end. -/
def symsZ (tz sz : Nat → Nat) (sn : Nat) (ks : List Nat) : Option (List Sy) := ks.mapM (symZ tz sz sn)
theorem symsZ_snoc (tz sz : Nat → Nat) (sn : Nat) (ks : List Nat) (k : Nat) : symsZ tz sz sn (ks ++ [k]) = (symsZ tz sz sn ks).bind fun l => (symZ tz sz sn k).map fun s => l ++ [s] := by
  unfold symsZ
  rw [List.mapM_append]
  cases List.mapM (symZ tz sz sn) ks <;> cases h : symZ tz sz sn k <;> simp [h]
end Go.Proofs.Ytegbhjmghkbgmaa
