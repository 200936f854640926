/- Blocks of sixteen bytes: a whole one out of and into a variable, in one step. -/
import Derived.Test.YtldicconopcipaaRows
import Derived.WalkKit
import Derived.ProofKit
import Derived.Below
import Derived.Deep.WholeRow
import Derived.Lib.Hide
import Derived.Deep.RegionHeld3
import Derived.Deep.DrawnRows
import Derived.RegionTactic
import Derived.Deep.DeepCutAuto
namespace Go.Proofs.Ytldicconopcipaa
open Go.RowKit
set_option linter.unusedVariables false
set_option linter.unusedSimpArgs false
/-- A block's cells are one array's. -/
def R16 (W : World) (b : Nat) (vs : Array Value) : Prop := W.heap[b]? = some (.cells vs 22 (0, 0)) ∧ vs.size = 16 ∧ vs.all (·.oneCell') = true
theorem info22 : (Try.prog.info? 22).map (·.size) = some 16 := by kernel_rfl
theorem load_run {W : World} {b : Nat} {vs : Array Value} (h : R16 W b vs) : (loadVar 22 ⟨b, 0, none⟩).run Try.prog W = .ok (.agg vs) W :=
  run_loadVar_row _ _ 22 22 vs (0, 0) _ h.1 Try.underlying22 rfl (by rw [h.2.1]; exact info22)
theorem store_run {W : World} {b : Nat} {vs us : Array Value} (h : R16 W b us) (hs : vs.size = 16) (ho : vs.all (·.oneCell') = true) : (storeVar 22 ⟨b, 0, none⟩ (.agg vs)).run Try.prog W = .ok () (W.setRow b vs) :=
  run_storeVar_row _ _ 22 22 us vs h.1 (by rw [hs]; exact info22) (by rw [h.2.1, hs]) ho
theorem wpList_load22 {ops : Array Oper} {Q : Exit → Act → World → Prop} {o : Oper} {rest : List Oper} {a : Act} {W : World} {x : Operand} {b : Nat} {vs : Array Value}
    (ho : o.op = .load 22 x) (hg : o.guard = none) (hx : a.eval x = .pointer (some ⟨b, 0, none⟩)) (h : R16 W b vs)
    (hn : wpList Try.prog ops Q rest (a.put o.dst (.agg vs)) W) : wpList Try.prog ops Q (o :: rest) a W := by
  refine wpList_plain hg fun K hK => ?_
  have e : (execOp a.eval o).run Try.prog W = .ok (.value (.agg vs)) W := by
    unfold execOp
    rw [ho]
    simp only [hx, Instr.loadAt, Instr.sureAddr, Sem.run_bind, Sem.run_pure, Result.andThen, load_run h]
  unfold Oper.wp
  rw [e, Oper.upon_value]
  exact hK _ _ hn
theorem wpList_store22 {ops : Array Oper} {Q : Exit → Act → World → Prop} {o : Oper} {rest : List Oper} {a : Act} {W : World} {x y : Operand} {b : Nat} {us vs : Array Value}
    (ho : o.op = .store 22 x y) (hg : o.guard = none) (hx : a.eval x = .pointer (some ⟨b, 0, none⟩)) (hy : a.eval y = .agg vs) (h : R16 W b us) (hs : vs.size = 16) (h1 : vs.all (·.oneCell') = true)
    (hn : wpList Try.prog ops Q rest (a.put o.dst undef) (W.setRow b vs)) : wpList Try.prog ops Q (o :: rest) a W := by
  refine wpList_plain hg fun K hK => ?_
  have e : (execOp a.eval o).run Try.prog W = .ok .skip (W.setRow b vs) := by
    unfold execOp
    rw [ho]
    simp only [hx, hy, Instr.storeAt, Instr.sureAddr, Sem.run_bind, Sem.run_pure, Result.andThen, store_run h hs h1]
  unfold Oper.wp
  rw [e, Oper.upon_skip]
  exact hK _ _ hn
def z16 : Array Value := #[.int .u8 0, .int .u8 0, .int .u8 0, .int .u8 0, .int .u8 0, .int .u8 0, .int .u8 0, .int .u8 0, .int .u8 0, .int .u8 0, .int .u8 0, .int .u8 0, .int .u8 0, .int .u8 0, .int .u8 0, .int .u8 0]
theorem R16.new (w : World) (vs : Array Value) (hs : vs.size = 16) (h1 : vs.all (·.oneCell') = true) : R16 (w.alloc (.cells vs 22)) w.heap.size vs := ⟨heap_alloc_last w _, hs, h1⟩
theorem R16.newz (w : World) : R16 (w.alloc (.cells #[.int .u8 0, .int .u8 0, .int .u8 0, .int .u8 0, .int .u8 0, .int .u8 0, .int .u8 0, .int .u8 0, .int .u8 0, .int .u8 0, .int .u8 0, .int .u8 0, .int .u8 0, .int .u8 0, .int .u8 0, .int .u8 0] 22)) w.heap.size z16 := ⟨heap_alloc_last w _, rfl, by simp [z16, Value.oneCell']⟩
theorem R16.lt {W : World} {b : Nat} {vs : Array Value} (h : R16 W b vs) : b < W.heap.size := (Array.getElem?_eq_some_iff.1 h.1).1
theorem R16.keep {W W' : World} {b : Nat} {vs : Array Value} (h : R16 W b vs) (hb : Below W.heap.size W W') : R16 W' b vs := ⟨(hb.block _ h.lt).trans h.1, h.2⟩
theorem R16.alloc {W : World} {b : Nat} {vs : Array Value} (h : R16 W b vs) (o : Obj) : R16 (W.alloc o) b vs := h.keep ((Below.refl _ _).alloc (Nat.le_refl _) o)
theorem R16.drew {W : World} {b : Nat} {vs : Array Value} (h : R16 W b vs) : R16 W.drew b vs := h
theorem R16.row {W : World} {b : Nat} {us vs : Array Value} (h : R16 W b us) (hs : vs.size = 16) (h1 : vs.all (·.oneCell') = true) : R16 (W.setRow b vs) b vs := ⟨setRow_heap _ _ _ _ _ _ h.1, hs, h1⟩
theorem setRow_other {W : World} {b p : Nat} {vs : Array Value} (hn : b ≠ p) : (W.setRow p vs).heap[b]? = W.heap[b]? := by
  show (W.heap.modify p _)[b]? = _
  rw [Array.getElem?_modify]
  simp [hn.symm]
theorem R16.far {W : World} {b p : Nat} {us vs : Array Value} (h : R16 W b us) (hn : b ≠ p) : R16 (W.setRow p vs) b us := ⟨(setRow_other hn).trans h.1, h.2⟩
theorem below_row {w W : World} {n p : Nat} {vs : Array Value} (h : Below n w W) (hp : n ≤ p) : Below n w (W.setRow p vs) :=
  h.trans ⟨rfl, rfl, rfl, by simp [World.setRow], fun k hk => setRow_other (by omega)⟩
theorem mv_any (x y : Array Value) (hx : x.size = 16) (hx1 : x.all (·.oneCell') = true) (hy : y.size = 16) (hy1 : y.all (·.oneCell') = true) (i : Int) (w : World) :
    Calls Try.prog 26 #[.agg x, .agg y, .int .u8 i] w fun e w' => e = .returned (.agg y) ∧ Below w.heap.size w w' := by
  have h4 := (((R16.new (w.alloc (.cells x 22)) y hy hy1)).alloc (.cells #[.int .u8 0, .int .u8 0, .int .u8 0, .int .u8 0, .int .u8 0, .int .u8 0, .int .u8 0, .int .u8 0, .int .u8 0, .int .u8 0, .int .u8 0, .int .u8 0, .int .u8 0, .int .u8 0, .int .u8 0, .int .u8 0] 22))
  have h6 := R16.newz ((w.alloc (.cells x 22)).alloc (.cells y 22))
  have hB := Lib.hid ((((Below.refl _ w).alloc (Nat.le_refl _) (.cells x 22)).alloc (by simp) (.cells y 22)).alloc (by simp; omega) (.cells #[.int .u8 0, .int .u8 0, .int .u8 0, .int .u8 0, .int .u8 0, .int .u8 0, .int .u8 0, .int .u8 0, .int .u8 0, .int .u8 0, .int .u8 0, .int .u8 0, .int .u8 0, .int .u8 0, .int .u8 0, .int .u8 0] 22))
  simp only [World.size_alloc] at h4 h6
  have h4 := Lib.hid h4
  have h6 := Lib.hid h6
  go_enter Try.func26, Try.ntmps26
  go_upto_region 1 with fail
  generalize World.alloc (World.alloc (World.alloc _ _) _) _ = W1 at *
  refine wp_region_list ?_
  refine wpList_load22 rfl rfl rfl h4.out ?_
  refine wpList_store22 rfl rfl rfl rfl h6.out hy hy1 ?_
  simp only [Act.put, List.setIfInBounds_toArray, List.set_cons_zero, List.set_cons_succ, List.getElem_toArray, List.getElem_cons_succ, List.getElem_cons_zero]
  refine wpList_nil ?_
  have h9 := Lib.hid (h6.out.row hy hy1)
  have hB9 := Lib.hid (below_row (vs := y) hB.out (show w.heap.size ≤ w.heap.size + 1 + 1 by omega))
  generalize World.setRow _ _ _ = W2 at *
  go_wp2
  exact bodyPost_ret (v := .agg y) (results_cell_row rfl _ _ _ 22 _ (0, 0) _ rfl h9.out.1 Try.underlying22 rfl (by rw [h9.out.2.1]; exact info22)) rfl ⟨rfl, hB9.out⟩
end Go.Proofs.Ytldicconopcipaa
