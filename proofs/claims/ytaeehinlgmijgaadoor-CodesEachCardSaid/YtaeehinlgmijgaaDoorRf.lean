/- The reference's flows. -/
import Derived.Test.YtaeehinlgmijgaaDoorRm
namespace Go.Proofs.YtaeehinlgmijgaaDoor
open Go.RowKit Go.Shelf
set_option linter.unusedVariables false
set_option linter.unusedSimpArgs false
attribute [local go_sem] Oper.semAt_some
/-- Forms so far, in a row of one's own. -/
def SR (w : World) (pre : List Fm) (v : Value) (W : World) : Prop := W.ownsRow w.heap.size 23 14 v pre.length (cellsL pre) ∧ Below w.heap.size w W
theorem SR.next {w W W1 : World} {pre : List Fm} {x : Fm} {v v' : Value} (h : SR w pre v W) (ho : W1.ownsRow w.heap.size 23 14 v' (pre.length + 1) (cellsL pre ++ x.cs)) (hg : (W.alloc (.cells x.cs.toArray 23)).grownBy W1 v.ownBlock) : SR w (pre ++ [x]) v' W1 := by
  refine ⟨by rw [cellsL_snoc, List.length_append]; exact ho, ?_⟩
  have hl := h.2.size
  have h1 : Below w.heap.size (W.alloc (.cells x.cs.toArray 23)) W1 := (Below.refl _ _).grown hg (by simp; omega) (fun q e => by
    rcases h.1.2 with ⟨h, _⟩ | ⟨g', cap', cur, h, hle, _⟩
    · rw [h] at e; cases e
    · rw [h] at e; cases e; exact hle)
  exact (h.2.alloc hl _).trans h1
def flowH : List Fm := (plainL.drop 17).take 7
def flowH1 : List Fm := flowH ++ (List.range 16).flatMap cond1
def flowH2 : List Fm := flowH1 ++ (List.range 16).flatMap cond2
def flowH3 : List Fm := flowH2 ++ (List.range 16).flatMap cond3
theorem wpList_build23 {ops : Array Oper} {Q : Exit → Act → World → Prop} {o : Oper} {rest : List Oper} {a : Act} {W : World} {y : Operand} {x : Fm}
    (ho : o.op = .buildSlice 24 1 #[(0, y)]) (hg : o.guard = none) (hy : a.eval y = x.v)
    (hn : wpList Tryd.prog ops Q rest (a.put o.dst (.slice (some ⟨W.heap.size, 0, none⟩) 1 1)) (W.alloc (.cells x.cs.toArray 23))) : wpList Tryd.prog ops Q (o :: rest) a W := by
  refine wpList_plain hg fun K hK => ?_
  unfold Oper.wp
  rw [build_run (W := W) ho hy, Oper.upon_value]
  exact hK _ _ hn
theorem cells_new (W : World) (x : Fm) (j : Nat) (u : Value) (hu : x.cs[j]? = some u) : (W.alloc (.cells x.cs.toArray 23)).cell? ((⟨W.heap.size, 0, none⟩ : Addr).add j) = some u := by
  have h := (show FB (W.alloc (.cells x.cs.toArray 23)) W.heap.size x from heap_alloc_last W _).at j u hu
  by_cases hj : j = 0
  · subst hj; exact h
  · simp only [Addr.add, if_neg hj, Nat.zero_add]; exact h
theorem Fm.ones (x : Fm) : ∀ u ∈ x.cs, u.oneCell' = true := by
  have h := Array.all_eq_true'.1 x.one
  intro u hu
  exact h u (by simpa using hu)
theorem flat_len {f : Nat → List Fm} {m : Nat} (hf : ∀ k, (f k).length = m) (k : Nat) : ((List.range k).flatMap f).length = k * m := by
  induction k with
  | zero => simp
  | succ k ih => rw [List.range_succ, List.flatMap_append, List.length_append, ih]; simp [hf]; rw [Nat.add_mul, Nat.one_mul]
theorem flat_succ' (f : Nat → List Fm) (k : Nat) : (List.range (k + 1)).flatMap f = (List.range k).flatMap f ++ f k := by rw [List.range_succ, List.flatMap_append]; simp
set_option maxRecDepth 1000000 in
set_option maxHeartbeats 4000000 in
theorem flows_any (w : World) : Calls Tryd.prog 23 #[] w fun e w' => ∃ v, e = .returned v ∧ SR w flowH3 v w' := by
  obtain ⟨i0, hi, hz0, hz1, hz2⟩ := info_parts infoE23
  have HI0 := Lib.hid (And.intro hi (And.intro hz0 (And.intro hz1 hz2)))
  clear hi hz0 hz1 hz2
  go_enter Tryd.func23, Tryd.ntmps23
  go_upto_region 1 with fail
  refine wp_region_list ?_
  refine wpList_value (.agg #[.int .u8 0, .int .u8 0, .int .u8 80, .bool true, .int .i64 (-1), .int .u8 24, .int .u8 0, .int .i64 (8), .int .u8 6, .int .i64 (0), .bool false, .bool false, .bool false, .bool false]) rfl (by kernel_rfl) ?_
  refine wpList_value (.agg #[.int .u8 0, .int .u8 0, .int .u8 88, .bool true, .int .i64 (-1), .int .u8 25, .int .u8 0, .int .i64 (8), .int .u8 6, .int .i64 (0), .bool false, .bool false, .bool false, .bool false]) rfl (by kernel_rfl) ?_
  refine wpList_value (.agg #[.int .u8 0, .int .u8 0, .int .u8 232, .bool false, .int .i64 (-1), .int .u8 26, .int .u8 0, .int .i64 (8), .int .u8 8, .int .i64 (4), .bool false, .bool false, .bool false, .bool false]) rfl (by kernel_rfl) ?_
  refine wpList_value (.agg #[.int .u8 0, .int .u8 0, .int .u8 195, .bool false, .int .i64 (-1), .int .u8 27, .int .u8 0, .int .i64 (8), .int .u8 0, .int .i64 (0), .bool false, .bool false, .bool false, .bool false]) rfl (by kernel_rfl) ?_
  refine wpList_value (.agg #[.int .u8 0, .int .u8 0, .int .u8 233, .bool false, .int .i64 (-1), .int .u8 28, .int .u8 0, .int .i64 (8), .int .u8 8, .int .i64 (4), .bool false, .bool false, .bool false, .bool false]) rfl (by kernel_rfl) ?_
  refine wpList_value (.agg #[.int .u8 0, .int .u8 0, .int .u8 235, .bool false, .int .i64 (-1), .int .u8 28, .int .u8 0, .int .i64 (8), .int .u8 8, .int .i64 (1), .bool false, .bool false, .bool false, .bool false]) rfl (by kernel_rfl) ?_
  refine wpList_value (.agg #[.int .u8 0, .int .u8 0, .int .u8 255, .bool false, .int .i64 (4), .int .u8 28, .int .u8 0, .int .i64 (8), .int .u8 3, .int .i64 (0), .bool false, .bool false, .bool false, .bool false]) rfl (by kernel_rfl) ?_
  refine wpList_buildSlice rfl 24 23 7 #[(0, .tmp 5), (1, .tmp 6), (2, .tmp 7), (3, .tmp 8), (4, .tmp 9), (5, .tmp 10), (6, .tmp 11)] rfl (cellsL flowH).toArray i0 zf.v Tryd.underlying24 HI0.out.1 HI0.out.2.1 (by rw [HI0.out.2.2.1]; decide) (by rw [HI0.out.2.2.1]; decide) (by rw [HI0.out.2.2.1]; kernel_rfl) ?_
  have h9 := heap_alloc_last w (.cells (cellsL flowH).toArray 23)
  have hB9 := (Below.refl w.heap.size w).alloc (Nat.le_refl _) (.cells (cellsL flowH).toArray 23)
  generalize World.alloc _ _ = W3 at *
  have H9 : Hid (SR w flowH (.slice (some ⟨w.heap.size, 0, none⟩) 7 7) W3) := Lib.hid ⟨⟨by rw [cellsL_len], .inr ⟨w.heap.size, 7, _, rfl, Nat.le_refl _, h9, Nat.le_refl _, by unfold maxLen; omega, by kernel_rfl, by kernel_rfl⟩⟩, hB9⟩
  clear h9 hB9
  refine wpList_value (.slice (some ⟨w.heap.size, 0, none⟩) 7 7) rfl rfl ?_
  refine wpList_nil ?_
  generalize hv : Value.slice (some ⟨w.heap.size, 0, none⟩) 7 7 = v at H9 ⊢
  clear hv
  simp only [Act.put, List.setIfInBounds_toArray, List.set_cons_zero, List.set_cons_succ, List.getElem_toArray, List.getElem_cons_succ, List.getElem_cons_zero]
  go_wp2_with fail
  go_loopw [1, 2] (fun v i W => ∃ k : Nat, k ≤ 16 ∧ i = .int .i64 k ∧ Hid (SR w (flowH ++ (List.range k).flatMap cond1) v W)) (fun _ i _ => 16 - (intOf i).toNat)
  case atStart => exact ⟨0, by omega, rfl, Lib.hid (by simpa using H9.out)⟩
  case round =>
    clear H9
    obtain ⟨k, hk, rfl, HS⟩ := hrel
    have hl0 : (flowH).length ≤ 70 := by decide +kernel
    have hlen : (flowH ++ (List.range k).flatMap cond1).length ≤ 110 := by rw [List.length_append, flat_len (m := 2) (fun _ => rfl)]; omega
    by_cases hlt : k < 16
    · have HF2 := Lib.hid (flat_succ' cond1 k)
      generalize hpre : flowH ++ (List.range k).flatMap cond1 = pre at HS hlen
      have HP := Lib.hid hpre
      clear hpre
      have hl1 : (pre).length = pre.length + 0 := by simp
      go_wp2_with (first | (refine wpList_build23 (x := (mkF 0 1 (0x80 + k) false (-1) 29 k 8 8 4 false)) rfl rfl (by kernel_rfl) ?_) | (at_builtin; refine wpList_append_own _ rfl _ _ 24 rfl w.heap.size 23 i0 zf.v 14 56 Tryd.underlying24 HI0.out.1 HI0.out.2.1 HI0.out.2.2.1 HI0.out.2.2.2 rfl (by decide) _ (pre).length (cellsL (pre)) rfl (HS.out.1.alloc _) ⟨_, 0, none⟩ 1 1 ((mkF 0 1 (0x80 + k) false (-1) 29 k 8 8 4 false)).cs rfl rfl (cells_new _ _) (Fm.ones _) (by unfold maxLen; omega) (by omega) (by have := HS.out.2.size; simp; omega) ?_) | fail)
      intro v1 W11 hown hgr _
      have HS1 := Lib.hid (SR.next (x := (mkF 0 1 (0x80 + k) false (-1) 29 k 8 8 4 false)) HS.out hown hgr)
      clear hown hgr
      have hl2 : (pre ++ [(mkF 0 1 (0x80 + k) false (-1) 29 k 8 8 4 false)]).length = pre.length + 1 := by simp
      go_wp2_with (first | (refine wpList_build23 (x := (mkF 0 0 (0x70 + k) false (-1) 29 k 8 8 1 false)) rfl rfl (by kernel_rfl) ?_) | (at_builtin; refine wpList_append_own _ rfl _ _ 24 rfl w.heap.size 23 i0 zf.v 14 56 Tryd.underlying24 HI0.out.1 HI0.out.2.1 HI0.out.2.2.1 HI0.out.2.2.2 rfl (by decide) _ (pre ++ [(mkF 0 1 (0x80 + k) false (-1) 29 k 8 8 4 false)]).length (cellsL (pre ++ [(mkF 0 1 (0x80 + k) false (-1) 29 k 8 8 4 false)])) rfl (HS1.out.1.alloc _) ⟨_, 0, none⟩ 1 1 ((mkF 0 0 (0x70 + k) false (-1) 29 k 8 8 1 false)).cs rfl rfl (cells_new _ _) (Fm.ones _) (by unfold maxLen; omega) (by omega) (by have := HS1.out.2.size; simp; omega) ?_) | fail)
      intro v2 W12 hown hgr _
      have HS2 := Lib.hid (SR.next (x := (mkF 0 0 (0x70 + k) false (-1) 29 k 8 8 1 false)) HS1.out hown hgr)
      clear hown hgr
      go_wp2_with fail
      go_roundw
      case rel => exact ⟨k + 1, by omega, by go_num, Lib.hid (by rw [HF2.out, ← List.append_assoc, HP.out]; exact (by have h := HS2.out; rw [List.append_assoc] at h; exact h))⟩
      case measure => simp [intOf]; omega
    · obtain rfl : k = 16 := by omega
      have H9 := HS
      clear HS
      go_wp2_with fail
      generalize hin : flowH ++ List.flatMap cond1 (List.range 16) = fl at H9
      obtain rfl : fl = flowH1 := hin.symm
      clear hin
      go_loopw [1, 3] (fun v i W => ∃ k : Nat, k ≤ 16 ∧ i = .int .i64 k ∧ Hid (SR w (flowH1 ++ (List.range k).flatMap cond2) v W)) (fun _ i _ => 16 - (intOf i).toNat)
      case atStart => exact ⟨0, by omega, rfl, Lib.hid (by simpa using H9.out)⟩
      case round =>
        clear H9
        obtain ⟨k, hk, rfl, HS⟩ := hrel
        have hl0 : (flowH1).length ≤ 70 := by decide +kernel
        have hlen : (flowH1 ++ (List.range k).flatMap cond2).length ≤ 110 := by rw [List.length_append, flat_len (m := 1) (fun _ => rfl)]; omega
        by_cases hlt : k < 16
        · have HF2 := Lib.hid (flat_succ' cond2 k)
          generalize hpre : flowH1 ++ (List.range k).flatMap cond2 = pre at HS hlen
          have HP := Lib.hid hpre
          clear hpre
          have hl1 : (pre).length = pre.length + 0 := by simp
          go_wp2_with (first | (refine wpList_build23 (x := (mkF 0 1 (0x40 + k) false (-1) 30 k 0 2 0 false)) rfl rfl (by kernel_rfl) ?_) | (at_builtin; refine wpList_append_own _ rfl _ _ 24 rfl w.heap.size 23 i0 zf.v 14 56 Tryd.underlying24 HI0.out.1 HI0.out.2.1 HI0.out.2.2.1 HI0.out.2.2.2 rfl (by decide) _ (pre).length (cellsL (pre)) rfl (HS.out.1.alloc _) ⟨_, 0, none⟩ 1 1 ((mkF 0 1 (0x40 + k) false (-1) 30 k 0 2 0 false)).cs rfl rfl (cells_new _ _) (Fm.ones _) (by unfold maxLen; omega) (by omega) (by have := HS.out.2.size; simp; omega) ?_) | fail)
          intro v1 W11 hown hgr _
          have HS1 := Lib.hid (SR.next (x := (mkF 0 1 (0x40 + k) false (-1) 30 k 0 2 0 false)) HS.out hown hgr)
          clear hown hgr
          go_wp2_with fail
          go_roundw
          case rel => exact ⟨k + 1, by omega, by go_num, Lib.hid (by rw [HF2.out, ← List.append_assoc, HP.out]; exact HS1.out)⟩
          case measure => simp [intOf]; omega
        · obtain rfl : k = 16 := by omega
          have H9 := HS
          clear HS
          go_wp2_with fail
          generalize hin : flowH1 ++ List.flatMap cond2 (List.range 16) = fl at H9
          obtain rfl : fl = flowH2 := hin.symm
          clear hin
          go_loopw [1, 4] (fun v i W => ∃ k : Nat, k ≤ 16 ∧ i = .int .i64 k ∧ Hid (SR w (flowH2 ++ (List.range k).flatMap cond3) v W)) (fun _ i _ => 16 - (intOf i).toNat)
          case atStart => exact ⟨0, by omega, rfl, Lib.hid (by simpa using H9.out)⟩
          case round =>
            clear H9
            obtain ⟨k, hk, rfl, HS⟩ := hrel
            have hl0 : (flowH2).length ≤ 70 := by decide +kernel
            have hlen : (flowH2 ++ (List.range k).flatMap cond3).length ≤ 110 := by rw [List.length_append, flat_len (m := 1) (fun _ => rfl)]; omega
            by_cases hlt : k < 16
            · have HF2 := Lib.hid (flat_succ' cond3 k)
              generalize hpre : flowH2 ++ (List.range k).flatMap cond3 = pre at HS hlen
              have HP := Lib.hid hpre
              clear hpre
              have hl1 : (pre).length = pre.length + 0 := by simp
              go_wp2_with (first | (refine wpList_build23 (x := (mkF 0 1 (0x90 + k) false 0 31 k 1 3 0 true)) rfl rfl (by kernel_rfl) ?_) | (at_builtin; refine wpList_append_own _ rfl _ _ 24 rfl w.heap.size 23 i0 zf.v 14 56 Tryd.underlying24 HI0.out.1 HI0.out.2.1 HI0.out.2.2.1 HI0.out.2.2.2 rfl (by decide) _ (pre).length (cellsL (pre)) rfl (HS.out.1.alloc _) ⟨_, 0, none⟩ 1 1 ((mkF 0 1 (0x90 + k) false 0 31 k 1 3 0 true)).cs rfl rfl (cells_new _ _) (Fm.ones _) (by unfold maxLen; omega) (by omega) (by have := HS.out.2.size; simp; omega) ?_) | fail)
              intro v1 W11 hown hgr _
              have HS1 := Lib.hid (SR.next (x := (mkF 0 1 (0x90 + k) false 0 31 k 1 3 0 true)) HS.out hown hgr)
              clear hown hgr
              go_wp2_with fail
              go_roundw
              case rel => exact ⟨k + 1, by omega, by go_num, Lib.hid (by rw [HF2.out, ← List.append_assoc, HP.out]; exact HS1.out)⟩
              case measure => simp [intOf]; omega
            · obtain rfl : k = 16 := by omega
              have H9 := HS
              clear HS
              have H10 : Hid (SR w flowH3 _ _) := Lib.hid H9.out
              clear H9
              go_wp2_with fail
              go_ret
              exact ⟨_, rfl, H10.out⟩
end Go.Proofs.YtaeehinlgmijgaaDoor
