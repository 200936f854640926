/- What the searching law wants: two symbols by ==, counts, order. -/
import Derived.Test.YtegbhjmghkbgmaaSn
import Derived.Test.YtegbhjmghkbgmaaSo
namespace Go.Proofs.Ytegbhjmghkbgmaa
open Go.RowKit Go.Shelf
set_option linter.unusedVariables false
set_option linter.unusedSimpArgs false
attribute [local go_sem] Oper.semAt_some
theorem eqlY (x : ByteArray) (y z : Nat) (f : Bool) (x' : ByteArray) (y' z' : Nat) (f' : Bool) (w : World) : Sem.run Try.prog (binOp .eql 42 (.agg #[.string x, .int .u64 (y : Nat), .int .u64 (z : Nat), .bool f]) (.agg #[.string x', .int .u64 (y' : Nat), .int .u64 (z' : Nat), .bool f'])) w = .ok (.bool (decide (((x, y, z, f) : Sy) = (x', y', z', f')))) w := by
  rw [run_eql_struct, run_equalIn_agg _ _ _ _ _ (by kernel_rfl) (by kernel_rfl)]
  go_simp
  have e1 : x.toList = x'.toList ↔ x = x' := ⟨fun h => ba_inj h, fun h => by rw [h]⟩
  have e2 : (y : Int) = (y' : Int) ↔ y = y' := by omega
  have e3 : (z : Int) = (z' : Int) ↔ z = z' := by omega
  simp only [e1, e2, e3]
  by_cases h1 : x = x' <;> by_cases h2 : y = y' <;> by_cases h3 : z = z' <;> by_cases h4 : f = f' <;> simp [h1, h2, h3, h4]
theorem count_step {l : List Sy} {k : Nat} {t s : Sy} (h : l[k]? = some t) : (l.take (k + 1)).count s = (l.take k).count s + (if t = s then 1 else 0) := by
  rw [List.take_add_one, h, List.count_append]
  simp [List.count_cons]
theorem Up.next {l : List Sy} (h : Up l) {i : Nat} {s t : Sy} (hs : l[i]? = some s) (ht : l[i + 1]? = some t) : s.2.1 ≤ t.2.1 := by
  obtain ⟨h1, e1⟩ := List.getElem?_eq_some_iff.1 hs
  obtain ⟨h2, e2⟩ := List.getElem?_eq_some_iff.1 ht
  have := List.pairwise_iff_getElem.1 h i (i + 1) h1 h2 (by omega)
  rw [e1, e2] at this
  exact this
/-- The answer of Functions holds functions alone, each as often as it came. -/
theorem SameK.funcs {l R : List Sy} (h : SameK (l.filter isF) R) : (∀ s, s ∈ R → s.2.2.2 = true) ∧ (∀ s : Sy, s.2.2.2 = true → R.count s = l.count s) := by
  refine ⟨fun s hs => ?_, fun s hs => ?_⟩
  · exact (List.mem_filter.1 ((h.mem s).1 hs)).2
  · rw [h.count s]
    exact List.count_filter (p := isF) hs
theorem SameK.zero {l R : List Sy} (h : SameK (l.filter isF) R) (k : ((l.filter isF).length = 0)) : R = [] := List.eq_nil_of_length_eq_zero (h.len.trans k)
end Go.Proofs.Ytegbhjmghkbgmaa
