/- The reference's moves and others. -/
import Derived.Test.YtaeehinlgmijgaaDoorSe
namespace Go.Proofs.YtaeehinlgmijgaaDoor
open Go.RowKit Go.Shelf
set_option linter.unusedVariables false
set_option linter.unusedSimpArgs false
attribute [local go_sem] Oper.semAt_some
/-- A slice of forms that fills its own block. -/
def RowOf (n : Nat) (L : List Fm) (v : Value) (W : World) : Prop := ∃ g, v = .slice (some ⟨g, 0, none⟩) L.length L.length ∧ n ≤ g ∧ W.heap[g]? = some (.cells (cellsL L).toArray 23 (0, 0))
def movesL : List Fm := plainL.take 8
set_option maxRecDepth 1000000 in
set_option maxHeartbeats 4000000 in
theorem moves_any (w : World) : Calls Tryd.prog 21 #[] w fun e w' => (∃ v, e = .returned v ∧ RowOf w.heap.size movesL v w') ∧ Below w.heap.size w w' := by
  obtain ⟨i0, hi, hz0, hz1, hz2⟩ := info_parts infoE23
  have HI0 := Lib.hid (And.intro hi (And.intro hz0 (And.intro hz1 hz2)))
  clear hi hz0 hz1 hz2
  go_enter Tryd.func21, Tryd.ntmps21
  go_upto_region 1 with fail
  refine wp_region_list ?_
  refine wpList_value (.agg #[.int .u8 0, .int .u8 0, .int .u8 137, .bool false, .int .i64 (-1), .int .u8 1, .int .u8 0, .int .i64 (0), .int .u8 1, .int .i64 (0), .bool false, .bool false, .bool false, .bool false]) rfl (by kernel_rfl) ?_
  refine wpList_value (.agg #[.int .u8 0, .int .u8 0, .int .u8 139, .bool false, .int .i64 (-1), .int .u8 1, .int .u8 0, .int .i64 (0), .int .u8 2, .int .i64 (0), .bool false, .bool false, .bool false, .bool false]) rfl (by kernel_rfl) ?_
  refine wpList_value (.agg #[.int .u8 0, .int .u8 0, .int .u8 199, .bool false, .int .i64 (0), .int .u8 1, .int .u8 0, .int .i64 (0), .int .u8 4, .int .i64 (4), .bool false, .bool false, .bool false, .bool false]) rfl (by kernel_rfl) ?_
  refine wpList_value (.agg #[.int .u8 0, .int .u8 0, .int .u8 184, .bool true, .int .i64 (-1), .int .u8 1, .int .u8 0, .int .i64 (8), .int .u8 7, .int .i64 (8), .bool true, .bool false, .bool false, .bool false]) rfl (by kernel_rfl) ?_
  refine wpList_value (.agg #[.int .u8 0, .int .u8 0, .int .u8 136, .bool false, .int .i64 (-1), .int .u8 1, .int .u8 0, .int .i64 (1), .int .u8 1, .int .i64 (0), .bool false, .bool false, .bool true, .bool false]) rfl (by kernel_rfl) ?_
  refine wpList_value (.agg #[.int .u8 0, .int .u8 0, .int .u8 138, .bool false, .int .i64 (-1), .int .u8 1, .int .u8 0, .int .i64 (1), .int .u8 2, .int .i64 (0), .bool false, .bool false, .bool true, .bool false]) rfl (by kernel_rfl) ?_
  refine wpList_value (.agg #[.int .u8 0, .int .u8 0, .int .u8 198, .bool false, .int .i64 (0), .int .u8 1, .int .u8 0, .int .i64 (1), .int .u8 4, .int .i64 (1), .bool false, .bool false, .bool true, .bool false]) rfl (by kernel_rfl) ?_
  refine wpList_value (.agg #[.int .u8 0, .int .u8 0, .int .u8 141, .bool false, .int .i64 (-1), .int .u8 2, .int .u8 0, .int .i64 (0), .int .u8 2, .int .i64 (0), .bool false, .bool false, .bool false, .bool true]) rfl (by kernel_rfl) ?_
  refine wpList_buildSlice rfl 24 23 8 #[(0, .tmp 1), (1, .tmp 2), (2, .tmp 3), (3, .tmp 4), (4, .tmp 5), (5, .tmp 6), (6, .tmp 7), (7, .tmp 8)] rfl (cellsL movesL).toArray i0 zf.v Tryd.underlying24 HI0.out.1 HI0.out.2.1 (by rw [HI0.out.2.2.1]; decide) (by rw [HI0.out.2.2.1]; decide) (by rw [HI0.out.2.2.1]; kernel_rfl) ?_
  have h9 := Lib.hid (heap_alloc_last w (.cells (cellsL movesL).toArray 23))
  have hB9 := Lib.hid ((Below.refl w.heap.size w).alloc (Nat.le_refl _) (.cells (cellsL movesL).toArray 23))
  generalize World.alloc _ _ = W3 at *
  refine wpList_value (.slice (some ⟨w.heap.size, 0, none⟩) 8 8) rfl rfl ?_
  refine wpList_nil ?_
  generalize hA : Act.put _ _ _ = A
  have h0 : A.tmps.getD 0 undef = .slice (some ⟨w.heap.size, 0, none⟩) 8 8 := by rw [← hA]; kernel_rfl
  have h1 : A.defers = [] := by rw [← hA]; kernel_rfl
  have H0 := Lib.hid h0
  have H1 := Lib.hid h1
  clear hA h0 h1
  go_wp2
  exact bodyPost_ret (results_tmp rfl _ _ _) H1.out ⟨⟨.slice (some ⟨w.heap.size, 0, none⟩) 8 8, by rw [H0.out], w.heap.size, rfl, Nat.le_refl _, h9.out⟩, hB9.out⟩
def othersL : List Fm := plainL.drop 24
set_option maxRecDepth 1000000 in
set_option maxHeartbeats 4000000 in
theorem others_any (w : World) : Calls Tryd.prog 24 #[] w fun e w' => (∃ v, e = .returned v ∧ RowOf w.heap.size othersL v w') ∧ Below w.heap.size w w' := by
  obtain ⟨i0, hi, hz0, hz1, hz2⟩ := info_parts infoE23
  have HI0 := Lib.hid (And.intro hi (And.intro hz0 (And.intro hz1 hz2)))
  clear hi hz0 hz1 hz2
  go_enter Tryd.func24, Tryd.ntmps24
  go_upto_region 1 with fail
  refine wp_region_list ?_
  refine wpList_value (.agg #[.int .u8 0, .int .u8 1, .int .u8 182, .bool false, .int .i64 (-1), .int .u8 32, .int .u8 0, .int .i64 (0), .int .u8 2, .int .i64 (0), .bool false, .bool false, .bool true, .bool false]) rfl (by kernel_rfl) ?_
  refine wpList_value (.agg #[.int .u8 0, .int .u8 1, .int .u8 190, .bool false, .int .i64 (-1), .int .u8 33, .int .u8 0, .int .i64 (0), .int .u8 2, .int .i64 (0), .bool false, .bool false, .bool true, .bool false]) rfl (by kernel_rfl) ?_
  refine wpList_value (.agg #[.int .u8 0, .int .u8 0, .int .u8 144, .bool false, .int .i64 (-1), .int .u8 34, .int .u8 0, .int .i64 (8), .int .u8 0, .int .i64 (0), .bool false, .bool false, .bool false, .bool false]) rfl (by kernel_rfl) ?_
  refine wpList_value (.agg #[.int .u8 243, .int .u8 1, .int .u8 111, .bool false, .int .i64 (-1), .int .u8 35, .int .u8 0, .int .i64 (16), .int .u8 2, .int .i64 (0), .bool false, .bool true, .bool false, .bool false]) rfl (by kernel_rfl) ?_
  refine wpList_value (.agg #[.int .u8 243, .int .u8 1, .int .u8 127, .bool false, .int .i64 (-1), .int .u8 35, .int .u8 0, .int .i64 (16), .int .u8 1, .int .i64 (0), .bool false, .bool true, .bool false, .bool false]) rfl (by kernel_rfl) ?_
  refine wpList_value (.agg #[.int .u8 102, .int .u8 1, .int .u8 239, .bool false, .int .i64 (-1), .int .u8 36, .int .u8 0, .int .i64 (16), .int .u8 2, .int .i64 (0), .bool false, .bool true, .bool false, .bool false]) rfl (by kernel_rfl) ?_
  refine wpList_value (.agg #[.int .u8 102, .int .u8 2, .int .u8 220, .bool false, .int .i64 (-1), .int .u8 37, .int .u8 0, .int .i64 (16), .int .u8 2, .int .i64 (0), .bool false, .bool true, .bool false, .bool false]) rfl (by kernel_rfl) ?_
  refine wpList_value (.agg #[.int .u8 102, .int .u8 2, .int .u8 221, .bool false, .int .i64 (-1), .int .u8 38, .int .u8 0, .int .i64 (16), .int .u8 2, .int .i64 (0), .bool false, .bool true, .bool false, .bool false]) rfl (by kernel_rfl) ?_
  refine wpList_value (.agg #[.int .u8 102, .int .u8 3, .int .u8 68, .bool false, .int .i64 (-1), .int .u8 39, .int .u8 0, .int .i64 (16), .int .u8 2, .int .i64 (1), .bool false, .bool true, .bool false, .bool false]) rfl (by kernel_rfl) ?_
  refine wpList_buildSlice rfl 24 23 9 #[(0, .tmp 1), (1, .tmp 2), (2, .tmp 3), (3, .tmp 4), (4, .tmp 5), (5, .tmp 6), (6, .tmp 7), (7, .tmp 8), (8, .tmp 9)] rfl (cellsL othersL).toArray i0 zf.v Tryd.underlying24 HI0.out.1 HI0.out.2.1 (by rw [HI0.out.2.2.1]; decide) (by rw [HI0.out.2.2.1]; decide) (by rw [HI0.out.2.2.1]; kernel_rfl) ?_
  have h9 := Lib.hid (heap_alloc_last w (.cells (cellsL othersL).toArray 23))
  have hB9 := Lib.hid ((Below.refl w.heap.size w).alloc (Nat.le_refl _) (.cells (cellsL othersL).toArray 23))
  generalize World.alloc _ _ = W3 at *
  refine wpList_value (.slice (some ⟨w.heap.size, 0, none⟩) 9 9) rfl rfl ?_
  refine wpList_nil ?_
  generalize hA : Act.put _ _ _ = A
  have h0 : A.tmps.getD 0 undef = .slice (some ⟨w.heap.size, 0, none⟩) 9 9 := by rw [← hA]; kernel_rfl
  have h1 : A.defers = [] := by rw [← hA]; kernel_rfl
  have H0 := Lib.hid h0
  have H1 := Lib.hid h1
  clear hA h0 h1
  go_wp2
  exact bodyPost_ret (results_tmp rfl _ _ _) H1.out ⟨⟨.slice (some ⟨w.heap.size, 0, none⟩) 9 9, by rw [H0.out], w.heap.size, rfl, Nat.le_refl _, h9.out⟩, hB9.out⟩
end Go.Proofs.YtaeehinlgmijgaaDoor
