/- slices.symMerge, for whatever halves. -/
import Derived.Test.YtegbhjmghkbgmaaSj
namespace Go.Proofs.Ytegbhjmghkbgmaa
open Go.RowKit Go.Shelf
set_option linter.unusedVariables false
set_option linter.unusedSimpArgs false
attribute [local go_sem] Oper.semAt_some
theorem merge_any (g cap : Nat) (R : List Value) : ∀ (K a m b : Nat) (L : List Sy) (w : World), b - a ≤ K → a < m → m < b → b ≤ L.length → L.length ≤ 1000000 → Up (cut L a m) → Up (cut L m b) → QY w g L R → Calls Try.prog 44 #[.slice (some ⟨g, 0, none⟩) L.length cap, .int .i64 (a : Nat), .int .i64 (m : Nat), .int .i64 (b : Nat), .func (.func 31) #[] #[]] w fun e W' => e = .returned (.tuple #[]) ∧ ∃ L', Srt L L' a b ∧ QY W' g L' R ∧ w.grownBy W' (some g) := by
  intro K
  induction K with
  | zero => intro a m b L w h1 h2 h3; omega
  | succ K ih =>
    intro a m b L w h1 h2 h3 h4 h5 h6 h7 h8
    by_cases hm : m = a + 1
    · subst hm
      exact merge_left g cap a b L R h3 h4 h5 h7 w h8
    · by_cases hb : b = m + 1
      · subst hb
        exact merge_right g cap a m L R (by omega) h4 h5 h6 w h8
      · exact merge_gen (K + 1) g cap a m b L R (by omega) (by omega) h4 h5 h6 h7 w h8 h1 (fun a m b L w q1 q2 q3 q4 q5 q6 q7 q8 => ih a m b L w (by omega) q2 q3 q4 q5 q6 q7 q8)
end Go.Proofs.Ytegbhjmghkbgmaa
