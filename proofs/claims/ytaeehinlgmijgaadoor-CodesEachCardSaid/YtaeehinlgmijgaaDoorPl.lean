/- codes.plain: the forms that stand alone. -/
import Derived.Test.YtaeehinlgmijgaaDoorBa
namespace Go.Proofs.YtaeehinlgmijgaaDoor
open Go.RowKit
set_option linter.unusedVariables false
set_option linter.unusedSimpArgs false
def zf : Fm := mkF 0 0 0 false 0 0 0 0 0 0 false
def z46 : Array Value := (cellsL (List.replicate 33 zf)).toArray
theorem zv46 (w : World) : (zeroValue 46).run Tryd.prog w = .ok (.agg z46) w := by kernel_rfl
theorem z46_ne : z46 ≠ #[] := by intro e; have := congrArg Array.size e; revert this; decide +kernel
theorem info46 : (Tryd.prog.info? 46).map (·.size) = some 462 := by kernel_rfl
theorem z46_size : z46.size = 462 := by kernel_rfl
def pl46 : Array Value := (cellsL plainL).toArray
theorem pl46_size : pl46.size = 462 := by kernel_rfl
theorem pl46_one : pl46.all (·.oneCell') = true := by kernel_rfl
def R46 (W : World) (b : Nat) (c : Array Value) : Prop := W.heap[b]? = some (.cells c 46 (0, 0))
theorem wpList_store46 {ops : Array Oper} {Q : Exit → Act → World → Prop} {o : Oper} {rest : List Oper} {a : Act} {W : World} {x y : Operand} {b : Nat} {u c : Array Value}
    (ho : o.op = .store 46 x y) (hg : o.guard = none) (hx : a.eval x = .pointer (some ⟨b, 0, none⟩)) (hy : a.eval y = .agg c) (h : R46 W b u) (hu : u.size = 462) (hs : c.size = 462) (h1 : c.all (·.oneCell') = true)
    (hn : wpList Tryd.prog ops Q rest (a.put o.dst undef) (W.setRow b c)) : wpList Tryd.prog ops Q (o :: rest) a W := by
  refine wpList_plain hg fun K hK => ?_
  have e : (execOp a.eval o).run Tryd.prog W = .ok .skip (W.setRow b c) := by
    unfold execOp
    rw [ho]
    simp only [hx, hy, Instr.storeAt, Instr.sureAddr, Sem.run_bind, Sem.run_pure, Result.andThen, run_storeVar_row _ _ 46 46 u c h (by rw [hs]; exact info46) (by rw [hu, hs]) h1]
  unfold Oper.wp
  rw [e, Oper.upon_skip]
  exact hK _ _ hn
theorem setRow_other {W : World} {b p : Nat} {vs : Array Value} (hn : b ≠ p) : (W.setRow p vs).heap[b]? = W.heap[b]? := by
  show (W.heap.modify p _)[b]? = _
  rw [Array.getElem?_modify]
  simp [hn.symm]
theorem below_row {w W : World} {n p : Nat} {vs : Array Value} (h : Below n w W) (hp : n ≤ p) : Below n w (W.setRow p vs) :=
  h.trans ⟨rfl, rfl, rfl, by simp [World.setRow], fun k hk => setRow_other (by omega)⟩
theorem wpList_value {ops : Array Oper} {Q : Exit → Act → World → Prop} {o : Oper} {rest : List Oper} {a : Act} {W : World} (v : Value)
    (hg : o.guard = none) (he : (execOp a.eval o).run Tryd.prog W = .ok (.value v) W)
    (hn : wpList Tryd.prog ops Q rest (a.put o.dst v) W) : wpList Tryd.prog ops Q (o :: rest) a W := by
  refine wpList_plain hg fun K hK => ?_
  unfold Oper.wp
  rw [he, Oper.upon_value]
  exact hK _ _ hn
set_option maxRecDepth 1000000 in
set_option maxHeartbeats 4000000 in
theorem plain_any (w : World) : Calls Tryd.prog 29 #[] w fun e w' => e = .returned (.agg pl46) ∧ Below w.heap.size w w' := by
  have HZ : Hid (R46 (w.alloc (.cells z46 46)) w.heap.size z46) := Lib.hid (heap_alloc_last w _)
  have HB := Lib.hid ((Below.refl w.heap.size w).alloc (Nat.le_refl _) (.cells z46 46))
  have hz := zv46
  have hne := z46_ne
  go_enter Tryd.func29, Tryd.ntmps29
  go_upto_region 1 with fail
  generalize World.alloc _ _ = W1 at *
  refine wp_region_list ?_
  refine wpList_value (.agg #[.int .u8 0, .int .u8 0, .int .u8 137, .bool false, .int .i64 (-1), .int .u8 1, .int .u8 0, .int .i64 (0), .int .u8 1, .int .i64 (0), .bool false, .bool false, .bool false, .bool false]) rfl (by kernel_rfl) ?_
  refine wpList_value (.agg #[.int .u8 0, .int .u8 0, .int .u8 139, .bool false, .int .i64 (-1), .int .u8 1, .int .u8 0, .int .i64 (0), .int .u8 2, .int .i64 (0), .bool false, .bool false, .bool false, .bool false]) rfl (by kernel_rfl) ?_
  refine wpList_value (.agg #[.int .u8 0, .int .u8 0, .int .u8 199, .bool false, .int .i64 (0), .int .u8 1, .int .u8 0, .int .i64 (0), .int .u8 4, .int .i64 (4), .bool false, .bool false, .bool false, .bool false]) rfl (by kernel_rfl) ?_
  refine wpList_value (.agg #[.int .u8 0, .int .u8 0, .int .u8 184, .bool true, .int .i64 (-1), .int .u8 1, .int .u8 0, .int .i64 (8), .int .u8 7, .int .i64 (8), .bool true, .bool false, .bool false, .bool false]) rfl (by kernel_rfl) ?_
  refine wpList_value (.agg #[.int .u8 0, .int .u8 0, .int .u8 136, .bool false, .int .i64 (-1), .int .u8 1, .int .u8 0, .int .i64 (1), .int .u8 1, .int .i64 (0), .bool false, .bool false, .bool true, .bool false]) rfl (by kernel_rfl) ?_
  refine wpList_value (.agg #[.int .u8 0, .int .u8 0, .int .u8 138, .bool false, .int .i64 (-1), .int .u8 1, .int .u8 0, .int .i64 (1), .int .u8 2, .int .i64 (0), .bool false, .bool false, .bool true, .bool false]) rfl (by kernel_rfl) ?_
  refine wpList_value (.agg #[.int .u8 0, .int .u8 0, .int .u8 198, .bool false, .int .i64 (0), .int .u8 1, .int .u8 0, .int .i64 (1), .int .u8 4, .int .i64 (1), .bool false, .bool false, .bool true, .bool false]) rfl (by kernel_rfl) ?_
  refine wpList_value (.agg #[.int .u8 0, .int .u8 0, .int .u8 141, .bool false, .int .i64 (-1), .int .u8 2, .int .u8 0, .int .i64 (0), .int .u8 2, .int .i64 (0), .bool false, .bool false, .bool false, .bool true]) rfl (by kernel_rfl) ?_
  refine wpList_value (.agg #[.int .u8 0, .int .u8 0, .int .u8 133, .bool false, .int .i64 (-1), .int .u8 11, .int .u8 0, .int .i64 (0), .int .u8 1, .int .i64 (0), .bool false, .bool false, .bool false, .bool false]) rfl (by kernel_rfl) ?_
  refine wpList_value (.agg #[.int .u8 0, .int .u8 0, .int .u8 247, .bool false, .int .i64 (0), .int .u8 11, .int .u8 0, .int .i64 (0), .int .u8 4, .int .i64 (4), .bool false, .bool false, .bool false, .bool false]) rfl (by kernel_rfl) ?_
  refine wpList_value (.agg #[.int .u8 0, .int .u8 0, .int .u8 255, .bool false, .int .i64 (0), .int .u8 12, .int .u8 0, .int .i64 (0), .int .u8 3, .int .i64 (0), .bool false, .bool false, .bool false, .bool false]) rfl (by kernel_rfl) ?_
  refine wpList_value (.agg #[.int .u8 0, .int .u8 0, .int .u8 255, .bool false, .int .i64 (1), .int .u8 13, .int .u8 0, .int .i64 (0), .int .u8 3, .int .i64 (0), .bool false, .bool false, .bool false, .bool false]) rfl (by kernel_rfl) ?_
  refine wpList_value (.agg #[.int .u8 0, .int .u8 0, .int .u8 247, .bool false, .int .i64 (2), .int .u8 15, .int .u8 0, .int .i64 (0), .int .u8 3, .int .i64 (0), .bool false, .bool false, .bool false, .bool false]) rfl (by kernel_rfl) ?_
  refine wpList_value (.agg #[.int .u8 0, .int .u8 0, .int .u8 247, .bool false, .int .i64 (3), .int .u8 14, .int .u8 0, .int .i64 (0), .int .u8 3, .int .i64 (0), .bool false, .bool false, .bool false, .bool false]) rfl (by kernel_rfl) ?_
  refine wpList_value (.agg #[.int .u8 0, .int .u8 0, .int .u8 247, .bool false, .int .i64 (4), .int .u8 22, .int .u8 0, .int .i64 (0), .int .u8 3, .int .i64 (0), .bool false, .bool false, .bool false, .bool false]) rfl (by kernel_rfl) ?_
  refine wpList_value (.agg #[.int .u8 0, .int .u8 0, .int .u8 247, .bool false, .int .i64 (6), .int .u8 23, .int .u8 0, .int .i64 (0), .int .u8 3, .int .i64 (0), .bool false, .bool false, .bool false, .bool false]) rfl (by kernel_rfl) ?_
  refine wpList_value (.agg #[.int .u8 0, .int .u8 1, .int .u8 175, .bool false, .int .i64 (-1), .int .u8 21, .int .u8 0, .int .i64 (0), .int .u8 2, .int .i64 (0), .bool false, .bool false, .bool false, .bool false]) rfl (by kernel_rfl) ?_
  refine wpList_value (.agg #[.int .u8 0, .int .u8 0, .int .u8 80, .bool true, .int .i64 (-1), .int .u8 24, .int .u8 0, .int .i64 (8), .int .u8 6, .int .i64 (0), .bool false, .bool false, .bool false, .bool false]) rfl (by kernel_rfl) ?_
  refine wpList_value (.agg #[.int .u8 0, .int .u8 0, .int .u8 88, .bool true, .int .i64 (-1), .int .u8 25, .int .u8 0, .int .i64 (8), .int .u8 6, .int .i64 (0), .bool false, .bool false, .bool false, .bool false]) rfl (by kernel_rfl) ?_
  refine wpList_value (.agg #[.int .u8 0, .int .u8 0, .int .u8 232, .bool false, .int .i64 (-1), .int .u8 26, .int .u8 0, .int .i64 (8), .int .u8 8, .int .i64 (4), .bool false, .bool false, .bool false, .bool false]) rfl (by kernel_rfl) ?_
  refine wpList_value (.agg #[.int .u8 0, .int .u8 0, .int .u8 195, .bool false, .int .i64 (-1), .int .u8 27, .int .u8 0, .int .i64 (8), .int .u8 0, .int .i64 (0), .bool false, .bool false, .bool false, .bool false]) rfl (by kernel_rfl) ?_
  refine wpList_value (.agg #[.int .u8 0, .int .u8 0, .int .u8 233, .bool false, .int .i64 (-1), .int .u8 28, .int .u8 0, .int .i64 (8), .int .u8 8, .int .i64 (4), .bool false, .bool false, .bool false, .bool false]) rfl (by kernel_rfl) ?_
  refine wpList_value (.agg #[.int .u8 0, .int .u8 0, .int .u8 235, .bool false, .int .i64 (-1), .int .u8 28, .int .u8 0, .int .i64 (8), .int .u8 8, .int .i64 (1), .bool false, .bool false, .bool false, .bool false]) rfl (by kernel_rfl) ?_
  refine wpList_value (.agg #[.int .u8 0, .int .u8 0, .int .u8 255, .bool false, .int .i64 (4), .int .u8 28, .int .u8 0, .int .i64 (8), .int .u8 3, .int .i64 (0), .bool false, .bool false, .bool false, .bool false]) rfl (by kernel_rfl) ?_
  refine wpList_value (.agg #[.int .u8 0, .int .u8 1, .int .u8 182, .bool false, .int .i64 (-1), .int .u8 32, .int .u8 0, .int .i64 (0), .int .u8 2, .int .i64 (0), .bool false, .bool false, .bool true, .bool false]) rfl (by kernel_rfl) ?_
  refine wpList_value (.agg #[.int .u8 0, .int .u8 1, .int .u8 190, .bool false, .int .i64 (-1), .int .u8 33, .int .u8 0, .int .i64 (0), .int .u8 2, .int .i64 (0), .bool false, .bool false, .bool true, .bool false]) rfl (by kernel_rfl) ?_
  refine wpList_value (.agg #[.int .u8 0, .int .u8 0, .int .u8 144, .bool false, .int .i64 (-1), .int .u8 34, .int .u8 0, .int .i64 (8), .int .u8 0, .int .i64 (0), .bool false, .bool false, .bool false, .bool false]) rfl (by kernel_rfl) ?_
  refine wpList_value (.agg #[.int .u8 243, .int .u8 1, .int .u8 111, .bool false, .int .i64 (-1), .int .u8 35, .int .u8 0, .int .i64 (16), .int .u8 2, .int .i64 (0), .bool false, .bool true, .bool false, .bool false]) rfl (by kernel_rfl) ?_
  refine wpList_value (.agg #[.int .u8 243, .int .u8 1, .int .u8 127, .bool false, .int .i64 (-1), .int .u8 35, .int .u8 0, .int .i64 (16), .int .u8 1, .int .i64 (0), .bool false, .bool true, .bool false, .bool false]) rfl (by kernel_rfl) ?_
  refine wpList_value (.agg #[.int .u8 102, .int .u8 1, .int .u8 239, .bool false, .int .i64 (-1), .int .u8 36, .int .u8 0, .int .i64 (16), .int .u8 2, .int .i64 (0), .bool false, .bool true, .bool false, .bool false]) rfl (by kernel_rfl) ?_
  refine wpList_value (.agg #[.int .u8 102, .int .u8 2, .int .u8 220, .bool false, .int .i64 (-1), .int .u8 37, .int .u8 0, .int .i64 (16), .int .u8 2, .int .i64 (0), .bool false, .bool true, .bool false, .bool false]) rfl (by kernel_rfl) ?_
  refine wpList_value (.agg #[.int .u8 102, .int .u8 2, .int .u8 221, .bool false, .int .i64 (-1), .int .u8 38, .int .u8 0, .int .i64 (16), .int .u8 2, .int .i64 (0), .bool false, .bool true, .bool false, .bool false]) rfl (by kernel_rfl) ?_
  refine wpList_value (.agg #[.int .u8 102, .int .u8 3, .int .u8 68, .bool false, .int .i64 (-1), .int .u8 39, .int .u8 0, .int .i64 (16), .int .u8 2, .int .i64 (1), .bool false, .bool true, .bool false, .bool false]) rfl (by kernel_rfl) ?_
  refine wpList_value (.agg pl46) rfl (by kernel_rfl) ?_
  refine wpList_store46 (b := w.heap.size) (c := pl46) rfl rfl (by kernel_rfl) (by kernel_rfl) HZ.out z46_size pl46_size pl46_one ?_
  refine wpList_nil ?_
  have h9 := Lib.hid (setRow_heap _ _ _ pl46 _ _ HZ.out)
  have hB9 := Lib.hid (below_row (vs := pl46) HB.out (Nat.le_refl _))
  generalize World.setRow _ _ _ = W3 at *
  generalize hA : Act.put _ _ _ = A
  have h0 : A.tmps.getD 0 undef = .pointer (some ⟨w.heap.size, 0, none⟩) := by rw [← hA]; kernel_rfl
  have h1 : A.defers = [] := by rw [← hA]; kernel_rfl
  have H0 := Lib.hid h0
  have H1 := Lib.hid h1
  clear hA h0 h1
  go_wp2
  exact bodyPost_ret (v := .agg pl46) (results_cell_row rfl _ _ _ 46 _ (0, 0) _ H0.out h9.out Tryd.underlying46 rfl (by rw [pl46_size]; exact info46)) H1.out ⟨rfl, hB9.out⟩
end Go.Proofs.YtaeehinlgmijgaaDoor
