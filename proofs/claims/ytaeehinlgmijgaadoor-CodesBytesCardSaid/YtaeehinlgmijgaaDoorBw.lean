/- The walk of CodesBytes, every input. -/
import Derived.Test.YtaeehinlgmijgaaDoorBv0
import Derived.Test.YtaeehinlgmijgaaDoorBv1
import Derived.Test.YtaeehinlgmijgaaDoorBv2
import Derived.Test.YtaeehinlgmijgaaDoorBv3
namespace Go.Proofs.YtaeehinlgmijgaaDoor
open Go.RowKit
set_option linter.unusedVariables false
set_option linter.unusedSimpArgs false
theorem cs_12 (f : Fm) : f.cs[1]? = some (.int .u8 (f.m : Nat)) ∧ f.cs[2]? = some (.int .u8 (f.o : Nat)) := ⟨rfl, rfl⟩
theorem bytes_walk (a : Int) (ha : (Lit.int .i64 a).wf = true) {w : World} (_W : World) (hG : GL w) :
    Calls Tryd.prog 6 #[.int .i64 a] w fun e w' => e = .returned (.bool true) ∧ Below w.heap.size w w' := by
  obtain ⟨k, hk, hn⟩ := norm139 a
  have hB := fun w => bytes_any (fAt k) w
  obtain ⟨c1, c2⟩ := cs_12 (fAt k)
  have hmem := fAt_mem k hk
  have ho := good_o hmem
  have hm : (fAt k).m ≤ 3 := by
    have hg := good_of hmem
    simp only [goodF, Bool.and_eq_true, decide_eq_true_eq] at hg
    exact hg.1.1.1.1.2
  have hz := mem_z hmem
  generalize hf : fAt k = f at *
  unfold opB at hB
  rcases (by omega : f.m = 0 ∨ f.m = 1 ∨ f.m = 2 ∨ f.m = 3) with h | h | h | h
  · rw [h] at c1 hB
    exact bytes_v0 a f f.o k hk hf hn c1 c2 ho hz (Lib.hid hB) w hG
  · rw [h] at c1 hB
    exact bytes_v1 a f f.o k hk hf hn c1 c2 ho hz (Lib.hid hB) w hG
  · rw [h] at c1 hB
    exact bytes_v2 a f f.o k hk hf hn c1 c2 ho hz (Lib.hid hB) w hG
  · rw [h] at c1 hB
    exact bytes_v3 a f f.o k hk hf hn c1 c2 ho hz (Lib.hid hB) w hG
end Go.Proofs.YtaeehinlgmijgaaDoor
