/- vector.ways: what is done, by deeds; and vector.Do. -/
import Derived.Test.YtldicconopcipaaA
import Derived.Laws.EntriesVeiled
import Derived.MapKept
import Derived.RangeFuncRecord
import Derived.BigRegion
namespace Go.Proofs.Ytldicconopcipaa
open Go.RowKit
set_option linter.unusedVariables false
set_option linter.unusedSimpArgs false
theorem put_put (W : World) (b : Nat) (o o' : Obj) : (W.putObj b o).putObj b o' = W.putObj b o' := by
  simp [World.putObj]
abbrev mE (k : Int) (v : Value) (n : Nat) : MapEntry := ⟨.int .u8 k, v, n⟩
theorem upd43 (W : World) (b : Nat) (es : Array MapEntry) (clock : Nat) (k : Int) (v : Value) (hobj : W.heap[b]? = some (.map es clock)) (hf : Instr.findNow (.int .u8) (.int .u8 k) es.toList 0 = some none) :
    (Instr.mapUpdate 43 (.map (some b)) (.int .u8 k) v).run Try.prog W = .ok () (W.putObj b (.map (es.push ⟨.int .u8 k, v, clock⟩) (clock + 1))) := by
  have hm : Try.prog.underlying 43 = some (.map 5 41) := by kernel_rfl
  have hd : Try.prog.underlying 5 = some (.int .u8) := by kernel_rfl
  have hk : MapKept.IsKey (.int .u8) (.int .u8 k) := by simp [MapKept.IsKey]
  simp [Instr.mapUpdate, run_underlying hm, MapKept.run_getObj_map hobj, MapKept.run_checkKey hd hk, MapKept.run_findKey hd hf, MapKept.run_setObj_map _ hobj, Result.andThen, World.putObj]
theorem upd_more (W : World) (b : Nat) (hb : b < W.heap.size) (es : Array MapEntry) (clock : Nat) (k : Int) (v : Value) (hf : Instr.findNow (.int .u8) (.int .u8 k) es.toList 0 = some none) :
    (Instr.mapUpdate 43 (.map (some b)) (.int .u8 k) v).run Try.prog (W.putObj b (.map es clock)) = .ok () (W.putObj b (.map (es.push ⟨.int .u8 k, v, clock⟩) (clock + 1))) := by
  rw [upd43 (W.putObj b (.map es clock)) b es clock k v (World.putObj_heap_same hb) hf, put_put]
set_option maxHeartbeats 1000000 in
theorem ways_any (w : World) :
    Calls Try.prog 20 #[] w fun e w' => e = .returned (.map (some w.heap.size)) ∧ w' = (w.alloc (Obj.map #[] 0)).putObj w.heap.size (.map #[mE 35 (.func (Fn.func 26) #[] #[]) 0, mE 36 (.func (Fn.func 27) #[] #[]) 1, mE 37 (.func (Fn.func 28) #[] #[]) 2, mE 38 (.func (Fn.func 30) #[] #[]) 3, mE 39 (.func (Fn.func 32) #[] #[]) 4] 5) := by
  have hmm := @run_makeMap Try.prog
  have hz : w.heap.size < (w.alloc (Obj.map #[] 0)).heap.size := by simp
  have g0 := fun v => upd43 (w.alloc (Obj.map #[] 0)) w.heap.size #[] 0 35 v (World.alloc_heap_new w _) rfl
  have g1 := fun v => upd_more (w.alloc (Obj.map #[] 0)) w.heap.size hz #[mE 35 (.func (Fn.func 26) #[] #[]) 0] 1 36 v rfl
  have g2 := fun v => upd_more (w.alloc (Obj.map #[] 0)) w.heap.size hz #[mE 35 (.func (Fn.func 26) #[] #[]) 0, mE 36 (.func (Fn.func 27) #[] #[]) 1] 2 37 v rfl
  have g3 := fun v => upd_more (w.alloc (Obj.map #[] 0)) w.heap.size hz #[mE 35 (.func (Fn.func 26) #[] #[]) 0, mE 36 (.func (Fn.func 27) #[] #[]) 1, mE 37 (.func (Fn.func 28) #[] #[]) 2] 3 38 v rfl
  have g4 := fun v => upd_more (w.alloc (Obj.map #[] 0)) w.heap.size hz #[mE 35 (.func (Fn.func 26) #[] #[]) 0, mE 36 (.func (Fn.func 27) #[] #[]) 1, mE 37 (.func (Fn.func 28) #[] #[]) 2, mE 38 (.func (Fn.func 30) #[] #[]) 3] 4 39 v rfl
  simp only [List.push_toArray, List.nil_append, List.cons_append] at g0 g1 g2 g3 g4
  clear hz
  go_enter Try.func20, Try.ntmps20
  go_wp2_with fail
  go_ret
  exact ⟨rfl, rfl⟩
theorem ways_below (w : World) (o : Obj) : Below w.heap.size w ((w.alloc (Obj.map #[] 0)).putObj w.heap.size o) := by
  have h : Below w.heap.size w (w.alloc (Obj.map #[] 0)) := (Below.refl _ w).alloc (Nat.le_refl _) _
  refine ⟨h.os, h.tape, h.output, ?_, fun k hk => ?_⟩
  · have := h.size; simp [World.putObj]
  · rw [World.putObj_heap_other (by omega)]; exact h.block k hk
theorem look_at (W : World) (b : Nat) (v : Value) (k : Int) (hobj : W.heap[b]? = some (.map #[mE 35 (.func (Fn.func 26) #[] #[]) 0, mE 36 (.func (Fn.func 27) #[] #[]) 1, mE 37 (.func (Fn.func 28) #[] #[]) 2, mE 38 (.func (Fn.func 30) #[] #[]) 3, mE 39 (.func (Fn.func 32) #[] #[]) 4] 5)) (hf : ∃ i, Instr.findNow (.int .u8) (.int .u8 k) (#[mE 35 (.func (Fn.func 26) #[] #[]) 0, mE 36 (.func (Fn.func 27) #[] #[]) 1, mE 37 (.func (Fn.func 28) #[] #[]) 2, mE 38 (.func (Fn.func 30) #[] #[]) 3, mE 39 (.func (Fn.func 32) #[] #[]) 4] : Array MapEntry).toList 0 = some (some (i, v))) :
    (Instr.lookup 43 (.map (some b)) (.int .u8 k) true).run Try.prog W = .ok (.tuple #[v, .bool true]) W := by
  obtain ⟨i, hf⟩ := hf
  have hm : Try.prog.underlying 43 = some (.map 5 41) := by kernel_rfl
  have hd : Try.prog.underlying 5 = some (.int .u8) := by kernel_rfl
  have hk : MapKept.IsKey (.int .u8) (.int .u8 k) := by simp [MapKept.IsKey]
  simp [Instr.lookup, run_underlying hm, MapKept.run_getObj_map hobj, MapKept.run_checkKey hd hk, MapKept.run_findKey hd hf, Result.andThen]
theorem look_miss (W : World) (b : Nat) (k : Int) (hk : k ≠ 35 ∧ k ≠ 36 ∧ k ≠ 37 ∧ k ≠ 38 ∧ k ≠ 39) (hobj : W.heap[b]? = some (.map #[mE 35 (.func (Fn.func 26) #[] #[]) 0, mE 36 (.func (Fn.func 27) #[] #[]) 1, mE 37 (.func (Fn.func 28) #[] #[]) 2, mE 38 (.func (Fn.func 30) #[] #[]) 3, mE 39 (.func (Fn.func 32) #[] #[]) 4] 5)) :
    (Instr.lookup 43 (.map (some b)) (.int .u8 k) true).run Try.prog W = .ok (.tuple #[.nilFunc, .bool false]) W := by
  obtain ⟨h0, h1, h2, h3, h4⟩ := hk
  have hm : Try.prog.underlying 43 = some (.map 5 41) := by kernel_rfl
  have hd : Try.prog.underlying 5 = some (.int .u8) := by kernel_rfl
  have hkk : MapKept.IsKey (.int .u8) (.int .u8 k) := by simp [MapKept.IsKey]
  have hf : Instr.findNow (.int .u8) (.int .u8 k) (#[mE 35 (.func (Fn.func 26) #[] #[]) 0, mE 36 (.func (Fn.func 27) #[] #[]) 1, mE 37 (.func (Fn.func 28) #[] #[]) 2, mE 38 (.func (Fn.func 30) #[] #[]) 3, mE 39 (.func (Fn.func 32) #[] #[]) 4] : Array MapEntry).toList 0 = some none := by
    have q0 := beq_false_of_ne h0
    have q1 := beq_false_of_ne h1
    have q2 := beq_false_of_ne h2
    have q3 := beq_false_of_ne h3
    have q4 := beq_false_of_ne h4
    simp [Instr.findNow, Instr.sameNow, mE, q0, q1, q2, q3, q4]
  have hz : (zeroValue 41).run Try.prog W = .ok .nilFunc W := by rfl
  simp [Instr.lookup, run_underlying hm, MapKept.run_getObj_map hobj, MapKept.run_checkKey hd hkk, MapKept.run_findKey hd hf, hz, Result.andThen]
theorem do_miss (K : Int) (hK : K ≠ 35 ∧ K ≠ 36 ∧ K ≠ 37 ∧ K ≠ 38 ∧ K ≠ 39) (x y : Array Value) (hx : x.size = 16) (hx1 : x.all (·.oneCell') = true) (hy : y.size = 16) (hy1 : y.all (·.oneCell') = true) (i : Int) (w : World) :
    Calls Try.prog 11 #[.int .u8 K, .agg x, .agg y, .int .u8 i] w fun e w' => e = .returned (.agg x) ∧ Below w.heap.size w w' := by
  have h5 := ((R16.new w x hx hx1).alloc (.cells y 22)).alloc (.cells #[.int .u8 0, .int .u8 0, .int .u8 0, .int .u8 0, .int .u8 0, .int .u8 0, .int .u8 0, .int .u8 0, .int .u8 0, .int .u8 0, .int .u8 0, .int .u8 0, .int .u8 0, .int .u8 0, .int .u8 0, .int .u8 0] 22)
  have h6 := (R16.new (w.alloc (.cells x 22)) y hy hy1).alloc (.cells #[.int .u8 0, .int .u8 0, .int .u8 0, .int .u8 0, .int .u8 0, .int .u8 0, .int .u8 0, .int .u8 0, .int .u8 0, .int .u8 0, .int .u8 0, .int .u8 0, .int .u8 0, .int .u8 0, .int .u8 0, .int .u8 0] 22)
  have h8 := R16.newz ((w.alloc (.cells x 22)).alloc (.cells y 22))
  have hB := Lib.hid ((((Below.refl _ w).alloc (Nat.le_refl _) (.cells x 22)).alloc (by simp) (.cells y 22)).alloc (by simp; omega) (.cells #[.int .u8 0, .int .u8 0, .int .u8 0, .int .u8 0, .int .u8 0, .int .u8 0, .int .u8 0, .int .u8 0, .int .u8 0, .int .u8 0, .int .u8 0, .int .u8 0, .int .u8 0, .int .u8 0, .int .u8 0, .int .u8 0] 22))
  simp only [World.size_alloc] at h5 h6 h8
  have H5 := Lib.hid h5
  have H6 := Lib.hid h6
  have H8 := Lib.hid h8
  clear h5 h6 h8
  go_enter Try.func11, Try.ntmps11
  go_upto_region 1 with fail
  generalize World.alloc (World.alloc (World.alloc _ _) _) _ = W1 at *
  go_wp2_with fail
  go_at_call 20
  refine (ways_any _).mono ?_
  rintro e w1 ⟨rfl, hw1⟩
  have hb1 : Below W1.heap.size W1 w1 := by rw [hw1]; exact ways_below _ _
  have hobj : w1.heap[W1.heap.size]? = some (.map #[mE 35 (.func (Fn.func 26) #[] #[]) 0, mE 36 (.func (Fn.func 27) #[] #[]) 1, mE 37 (.func (Fn.func 28) #[] #[]) 2, mE 38 (.func (Fn.func 30) #[] #[]) 3, mE 39 (.func (Fn.func 32) #[] #[]) 4] 5) := by rw [hw1]; exact World.putObj_heap_same (by simp)
  have K5 := Lib.hid (H5.out.keep hb1)
  have K6 := Lib.hid (H6.out.keep hb1)
  have K8 := Lib.hid (H8.out.keep hb1)
  have KB := Lib.hid (hB.out.trans (hb1.mono hB.out.size))
  clear H5 H6 H8 hB hb1 hw1
  have hlk := look_miss _ _ K hK hobj
  clear hobj
  go_upto_region 4 with fail
  refine wp_region_list ?_
  refine wpList_load22 rfl rfl rfl K5.out ?_
  refine wpList_store22 rfl rfl rfl rfl K8.out hx hx1 ?_
  simp only [Act.put, List.setIfInBounds_toArray, List.set_cons_zero, List.set_cons_succ, List.getElem_toArray, List.getElem_cons_succ, List.getElem_cons_zero]
  refine wpList_nil ?_
  have h9 := Lib.hid (K8.out.row hx hx1)
  have hB9 := Lib.hid (below_row (vs := x) KB.out (show w.heap.size ≤ w.heap.size + 1 + 1 by omega))
  generalize World.setRow _ _ _ = W2 at *
  go_wp2
  exact bodyPost_ret (v := .agg x) (results_cell_row rfl _ _ _ 22 _ (0, 0) _ rfl h9.out.1 Try.underlying22 rfl (by rw [h9.out.2.1]; exact info22)) rfl ⟨rfl, hB9.out⟩
theorem do_26 (x y r : Array Value) (hx : x.size = 16) (hx1 : x.all (·.oneCell') = true) (hy : y.size = 16) (hy1 : y.all (·.oneCell') = true) (hr : r.size = 16) (hr1 : r.all (·.oneCell') = true) (i : Int)
    (hc : ∀ W, Calls Try.prog 26 #[.agg x, .agg y, .int .u8 i] W fun e w' => e = .returned (.agg r) ∧ Below W.heap.size W w') (w : World) :
    Calls Try.prog 11 #[.int .u8 35, .agg x, .agg y, .int .u8 i] w fun e w' => e = .returned (.agg r) ∧ Below w.heap.size w w' := by
  have HC := Lib.hid hc
  clear hc
  have h5 := ((R16.new w x hx hx1).alloc (.cells y 22)).alloc (.cells #[.int .u8 0, .int .u8 0, .int .u8 0, .int .u8 0, .int .u8 0, .int .u8 0, .int .u8 0, .int .u8 0, .int .u8 0, .int .u8 0, .int .u8 0, .int .u8 0, .int .u8 0, .int .u8 0, .int .u8 0, .int .u8 0] 22)
  have h6 := (R16.new (w.alloc (.cells x 22)) y hy hy1).alloc (.cells #[.int .u8 0, .int .u8 0, .int .u8 0, .int .u8 0, .int .u8 0, .int .u8 0, .int .u8 0, .int .u8 0, .int .u8 0, .int .u8 0, .int .u8 0, .int .u8 0, .int .u8 0, .int .u8 0, .int .u8 0, .int .u8 0] 22)
  have h8 := R16.newz ((w.alloc (.cells x 22)).alloc (.cells y 22))
  have hB := Lib.hid ((((Below.refl _ w).alloc (Nat.le_refl _) (.cells x 22)).alloc (by simp) (.cells y 22)).alloc (by simp; omega) (.cells #[.int .u8 0, .int .u8 0, .int .u8 0, .int .u8 0, .int .u8 0, .int .u8 0, .int .u8 0, .int .u8 0, .int .u8 0, .int .u8 0, .int .u8 0, .int .u8 0, .int .u8 0, .int .u8 0, .int .u8 0, .int .u8 0] 22))
  simp only [World.size_alloc] at h5 h6 h8
  have H5 := Lib.hid h5
  have H6 := Lib.hid h6
  have H8 := Lib.hid h8
  clear h5 h6 h8
  go_enter Try.func11, Try.ntmps11
  go_upto_region 1 with fail
  generalize World.alloc (World.alloc (World.alloc _ _) _) _ = W1 at *
  go_wp2_with fail
  go_at_call 20
  refine (ways_any _).mono ?_
  rintro e w1 ⟨rfl, hw1⟩
  have hb1 : Below W1.heap.size W1 w1 := by rw [hw1]; exact ways_below _ _
  have hobj : w1.heap[W1.heap.size]? = some (.map #[mE 35 (.func (Fn.func 26) #[] #[]) 0, mE 36 (.func (Fn.func 27) #[] #[]) 1, mE 37 (.func (Fn.func 28) #[] #[]) 2, mE 38 (.func (Fn.func 30) #[] #[]) 3, mE 39 (.func (Fn.func 32) #[] #[]) 4] 5) := by rw [hw1]; exact World.putObj_heap_same (by simp)
  have K5 := Lib.hid (H5.out.keep hb1)
  have K6 := Lib.hid (H6.out.keep hb1)
  have K8 := Lib.hid (H8.out.keep hb1)
  have KB := Lib.hid (hB.out.trans (hb1.mono hB.out.size))
  clear H5 H6 H8 hB hb1 hw1
  have hlk := look_at _ _ (.func (Fn.func 26) #[] #[]) 35 hobj ⟨_, rfl⟩
  clear hobj
  go_wp2_with (first | (refine wpList_load22 rfl rfl rfl K5.out ?_) | (refine wpList_load22 rfl rfl rfl K6.out ?_))
  go_at_call 26
  refine (HC.out _).mono ?_
  rintro e w2 ⟨rfl, hb2⟩
  have L8 := Lib.hid (K8.out.keep hb2)
  have LB := Lib.hid (KB.out.trans (hb2.mono KB.out.size))
  clear K5 K6 K8 KB hb2
  go_wp2_with (refine wpList_store22 rfl rfl rfl rfl L8.out hr hr1 ?_)
  have h9 := Lib.hid (L8.out.row hr hr1)
  have hB9 := Lib.hid (below_row (vs := r) LB.out (show w.heap.size ≤ w.heap.size + 1 + 1 by omega))
  generalize World.setRow _ _ _ = W2 at *
  go_wp2
  exact bodyPost_ret (v := .agg r) (results_cell_row rfl _ _ _ 22 _ (0, 0) _ rfl h9.out.1 Try.underlying22 rfl (by rw [h9.out.2.1]; exact info22)) rfl ⟨rfl, hB9.out⟩
theorem do_27 (x y r : Array Value) (hx : x.size = 16) (hx1 : x.all (·.oneCell') = true) (hy : y.size = 16) (hy1 : y.all (·.oneCell') = true) (hr : r.size = 16) (hr1 : r.all (·.oneCell') = true) (i : Int)
    (hc : ∀ W, Calls Try.prog 27 #[.agg x, .agg y, .int .u8 i] W fun e w' => e = .returned (.agg r) ∧ Below W.heap.size W w') (w : World) :
    Calls Try.prog 11 #[.int .u8 36, .agg x, .agg y, .int .u8 i] w fun e w' => e = .returned (.agg r) ∧ Below w.heap.size w w' := by
  have HC := Lib.hid hc
  clear hc
  have h5 := ((R16.new w x hx hx1).alloc (.cells y 22)).alloc (.cells #[.int .u8 0, .int .u8 0, .int .u8 0, .int .u8 0, .int .u8 0, .int .u8 0, .int .u8 0, .int .u8 0, .int .u8 0, .int .u8 0, .int .u8 0, .int .u8 0, .int .u8 0, .int .u8 0, .int .u8 0, .int .u8 0] 22)
  have h6 := (R16.new (w.alloc (.cells x 22)) y hy hy1).alloc (.cells #[.int .u8 0, .int .u8 0, .int .u8 0, .int .u8 0, .int .u8 0, .int .u8 0, .int .u8 0, .int .u8 0, .int .u8 0, .int .u8 0, .int .u8 0, .int .u8 0, .int .u8 0, .int .u8 0, .int .u8 0, .int .u8 0] 22)
  have h8 := R16.newz ((w.alloc (.cells x 22)).alloc (.cells y 22))
  have hB := Lib.hid ((((Below.refl _ w).alloc (Nat.le_refl _) (.cells x 22)).alloc (by simp) (.cells y 22)).alloc (by simp; omega) (.cells #[.int .u8 0, .int .u8 0, .int .u8 0, .int .u8 0, .int .u8 0, .int .u8 0, .int .u8 0, .int .u8 0, .int .u8 0, .int .u8 0, .int .u8 0, .int .u8 0, .int .u8 0, .int .u8 0, .int .u8 0, .int .u8 0] 22))
  simp only [World.size_alloc] at h5 h6 h8
  have H5 := Lib.hid h5
  have H6 := Lib.hid h6
  have H8 := Lib.hid h8
  clear h5 h6 h8
  go_enter Try.func11, Try.ntmps11
  go_upto_region 1 with fail
  generalize World.alloc (World.alloc (World.alloc _ _) _) _ = W1 at *
  go_wp2_with fail
  go_at_call 20
  refine (ways_any _).mono ?_
  rintro e w1 ⟨rfl, hw1⟩
  have hb1 : Below W1.heap.size W1 w1 := by rw [hw1]; exact ways_below _ _
  have hobj : w1.heap[W1.heap.size]? = some (.map #[mE 35 (.func (Fn.func 26) #[] #[]) 0, mE 36 (.func (Fn.func 27) #[] #[]) 1, mE 37 (.func (Fn.func 28) #[] #[]) 2, mE 38 (.func (Fn.func 30) #[] #[]) 3, mE 39 (.func (Fn.func 32) #[] #[]) 4] 5) := by rw [hw1]; exact World.putObj_heap_same (by simp)
  have K5 := Lib.hid (H5.out.keep hb1)
  have K6 := Lib.hid (H6.out.keep hb1)
  have K8 := Lib.hid (H8.out.keep hb1)
  have KB := Lib.hid (hB.out.trans (hb1.mono hB.out.size))
  clear H5 H6 H8 hB hb1 hw1
  have hlk := look_at _ _ (.func (Fn.func 27) #[] #[]) 36 hobj ⟨_, rfl⟩
  clear hobj
  go_wp2_with (first | (refine wpList_load22 rfl rfl rfl K5.out ?_) | (refine wpList_load22 rfl rfl rfl K6.out ?_))
  go_at_call 27
  refine (HC.out _).mono ?_
  rintro e w2 ⟨rfl, hb2⟩
  have L8 := Lib.hid (K8.out.keep hb2)
  have LB := Lib.hid (KB.out.trans (hb2.mono KB.out.size))
  clear K5 K6 K8 KB hb2
  go_wp2_with (refine wpList_store22 rfl rfl rfl rfl L8.out hr hr1 ?_)
  have h9 := Lib.hid (L8.out.row hr hr1)
  have hB9 := Lib.hid (below_row (vs := r) LB.out (show w.heap.size ≤ w.heap.size + 1 + 1 by omega))
  generalize World.setRow _ _ _ = W2 at *
  go_wp2
  exact bodyPost_ret (v := .agg r) (results_cell_row rfl _ _ _ 22 _ (0, 0) _ rfl h9.out.1 Try.underlying22 rfl (by rw [h9.out.2.1]; exact info22)) rfl ⟨rfl, hB9.out⟩
theorem do_28 (x y r : Array Value) (hx : x.size = 16) (hx1 : x.all (·.oneCell') = true) (hy : y.size = 16) (hy1 : y.all (·.oneCell') = true) (hr : r.size = 16) (hr1 : r.all (·.oneCell') = true) (i : Int)
    (hc : ∀ W, Calls Try.prog 28 #[.agg x, .agg y, .int .u8 i] W fun e w' => e = .returned (.agg r) ∧ Below W.heap.size W w') (w : World) :
    Calls Try.prog 11 #[.int .u8 37, .agg x, .agg y, .int .u8 i] w fun e w' => e = .returned (.agg r) ∧ Below w.heap.size w w' := by
  have HC := Lib.hid hc
  clear hc
  have h5 := ((R16.new w x hx hx1).alloc (.cells y 22)).alloc (.cells #[.int .u8 0, .int .u8 0, .int .u8 0, .int .u8 0, .int .u8 0, .int .u8 0, .int .u8 0, .int .u8 0, .int .u8 0, .int .u8 0, .int .u8 0, .int .u8 0, .int .u8 0, .int .u8 0, .int .u8 0, .int .u8 0] 22)
  have h6 := (R16.new (w.alloc (.cells x 22)) y hy hy1).alloc (.cells #[.int .u8 0, .int .u8 0, .int .u8 0, .int .u8 0, .int .u8 0, .int .u8 0, .int .u8 0, .int .u8 0, .int .u8 0, .int .u8 0, .int .u8 0, .int .u8 0, .int .u8 0, .int .u8 0, .int .u8 0, .int .u8 0] 22)
  have h8 := R16.newz ((w.alloc (.cells x 22)).alloc (.cells y 22))
  have hB := Lib.hid ((((Below.refl _ w).alloc (Nat.le_refl _) (.cells x 22)).alloc (by simp) (.cells y 22)).alloc (by simp; omega) (.cells #[.int .u8 0, .int .u8 0, .int .u8 0, .int .u8 0, .int .u8 0, .int .u8 0, .int .u8 0, .int .u8 0, .int .u8 0, .int .u8 0, .int .u8 0, .int .u8 0, .int .u8 0, .int .u8 0, .int .u8 0, .int .u8 0] 22))
  simp only [World.size_alloc] at h5 h6 h8
  have H5 := Lib.hid h5
  have H6 := Lib.hid h6
  have H8 := Lib.hid h8
  clear h5 h6 h8
  go_enter Try.func11, Try.ntmps11
  go_upto_region 1 with fail
  generalize World.alloc (World.alloc (World.alloc _ _) _) _ = W1 at *
  go_wp2_with fail
  go_at_call 20
  refine (ways_any _).mono ?_
  rintro e w1 ⟨rfl, hw1⟩
  have hb1 : Below W1.heap.size W1 w1 := by rw [hw1]; exact ways_below _ _
  have hobj : w1.heap[W1.heap.size]? = some (.map #[mE 35 (.func (Fn.func 26) #[] #[]) 0, mE 36 (.func (Fn.func 27) #[] #[]) 1, mE 37 (.func (Fn.func 28) #[] #[]) 2, mE 38 (.func (Fn.func 30) #[] #[]) 3, mE 39 (.func (Fn.func 32) #[] #[]) 4] 5) := by rw [hw1]; exact World.putObj_heap_same (by simp)
  have K5 := Lib.hid (H5.out.keep hb1)
  have K6 := Lib.hid (H6.out.keep hb1)
  have K8 := Lib.hid (H8.out.keep hb1)
  have KB := Lib.hid (hB.out.trans (hb1.mono hB.out.size))
  clear H5 H6 H8 hB hb1 hw1
  have hlk := look_at _ _ (.func (Fn.func 28) #[] #[]) 37 hobj ⟨_, rfl⟩
  clear hobj
  go_wp2_with (first | (refine wpList_load22 rfl rfl rfl K5.out ?_) | (refine wpList_load22 rfl rfl rfl K6.out ?_))
  go_at_call 28
  refine (HC.out _).mono ?_
  rintro e w2 ⟨rfl, hb2⟩
  have L8 := Lib.hid (K8.out.keep hb2)
  have LB := Lib.hid (KB.out.trans (hb2.mono KB.out.size))
  clear K5 K6 K8 KB hb2
  go_wp2_with (refine wpList_store22 rfl rfl rfl rfl L8.out hr hr1 ?_)
  have h9 := Lib.hid (L8.out.row hr hr1)
  have hB9 := Lib.hid (below_row (vs := r) LB.out (show w.heap.size ≤ w.heap.size + 1 + 1 by omega))
  generalize World.setRow _ _ _ = W2 at *
  go_wp2
  exact bodyPost_ret (v := .agg r) (results_cell_row rfl _ _ _ 22 _ (0, 0) _ rfl h9.out.1 Try.underlying22 rfl (by rw [h9.out.2.1]; exact info22)) rfl ⟨rfl, hB9.out⟩
theorem do_30 (x y r : Array Value) (hx : x.size = 16) (hx1 : x.all (·.oneCell') = true) (hy : y.size = 16) (hy1 : y.all (·.oneCell') = true) (hr : r.size = 16) (hr1 : r.all (·.oneCell') = true) (i : Int)
    (hc : ∀ W, Calls Try.prog 30 #[.agg x, .agg y, .int .u8 i] W fun e w' => e = .returned (.agg r) ∧ Below W.heap.size W w') (w : World) :
    Calls Try.prog 11 #[.int .u8 38, .agg x, .agg y, .int .u8 i] w fun e w' => e = .returned (.agg r) ∧ Below w.heap.size w w' := by
  have HC := Lib.hid hc
  clear hc
  have h5 := ((R16.new w x hx hx1).alloc (.cells y 22)).alloc (.cells #[.int .u8 0, .int .u8 0, .int .u8 0, .int .u8 0, .int .u8 0, .int .u8 0, .int .u8 0, .int .u8 0, .int .u8 0, .int .u8 0, .int .u8 0, .int .u8 0, .int .u8 0, .int .u8 0, .int .u8 0, .int .u8 0] 22)
  have h6 := (R16.new (w.alloc (.cells x 22)) y hy hy1).alloc (.cells #[.int .u8 0, .int .u8 0, .int .u8 0, .int .u8 0, .int .u8 0, .int .u8 0, .int .u8 0, .int .u8 0, .int .u8 0, .int .u8 0, .int .u8 0, .int .u8 0, .int .u8 0, .int .u8 0, .int .u8 0, .int .u8 0] 22)
  have h8 := R16.newz ((w.alloc (.cells x 22)).alloc (.cells y 22))
  have hB := Lib.hid ((((Below.refl _ w).alloc (Nat.le_refl _) (.cells x 22)).alloc (by simp) (.cells y 22)).alloc (by simp; omega) (.cells #[.int .u8 0, .int .u8 0, .int .u8 0, .int .u8 0, .int .u8 0, .int .u8 0, .int .u8 0, .int .u8 0, .int .u8 0, .int .u8 0, .int .u8 0, .int .u8 0, .int .u8 0, .int .u8 0, .int .u8 0, .int .u8 0] 22))
  simp only [World.size_alloc] at h5 h6 h8
  have H5 := Lib.hid h5
  have H6 := Lib.hid h6
  have H8 := Lib.hid h8
  clear h5 h6 h8
  go_enter Try.func11, Try.ntmps11
  go_upto_region 1 with fail
  generalize World.alloc (World.alloc (World.alloc _ _) _) _ = W1 at *
  go_wp2_with fail
  go_at_call 20
  refine (ways_any _).mono ?_
  rintro e w1 ⟨rfl, hw1⟩
  have hb1 : Below W1.heap.size W1 w1 := by rw [hw1]; exact ways_below _ _
  have hobj : w1.heap[W1.heap.size]? = some (.map #[mE 35 (.func (Fn.func 26) #[] #[]) 0, mE 36 (.func (Fn.func 27) #[] #[]) 1, mE 37 (.func (Fn.func 28) #[] #[]) 2, mE 38 (.func (Fn.func 30) #[] #[]) 3, mE 39 (.func (Fn.func 32) #[] #[]) 4] 5) := by rw [hw1]; exact World.putObj_heap_same (by simp)
  have K5 := Lib.hid (H5.out.keep hb1)
  have K6 := Lib.hid (H6.out.keep hb1)
  have K8 := Lib.hid (H8.out.keep hb1)
  have KB := Lib.hid (hB.out.trans (hb1.mono hB.out.size))
  clear H5 H6 H8 hB hb1 hw1
  have hlk := look_at _ _ (.func (Fn.func 30) #[] #[]) 38 hobj ⟨_, rfl⟩
  clear hobj
  go_wp2_with (first | (refine wpList_load22 rfl rfl rfl K5.out ?_) | (refine wpList_load22 rfl rfl rfl K6.out ?_))
  go_at_call 30
  refine (HC.out _).mono ?_
  rintro e w2 ⟨rfl, hb2⟩
  have L8 := Lib.hid (K8.out.keep hb2)
  have LB := Lib.hid (KB.out.trans (hb2.mono KB.out.size))
  clear K5 K6 K8 KB hb2
  go_wp2_with (refine wpList_store22 rfl rfl rfl rfl L8.out hr hr1 ?_)
  have h9 := Lib.hid (L8.out.row hr hr1)
  have hB9 := Lib.hid (below_row (vs := r) LB.out (show w.heap.size ≤ w.heap.size + 1 + 1 by omega))
  generalize World.setRow _ _ _ = W2 at *
  go_wp2
  exact bodyPost_ret (v := .agg r) (results_cell_row rfl _ _ _ 22 _ (0, 0) _ rfl h9.out.1 Try.underlying22 rfl (by rw [h9.out.2.1]; exact info22)) rfl ⟨rfl, hB9.out⟩
theorem do_32 (x y r : Array Value) (hx : x.size = 16) (hx1 : x.all (·.oneCell') = true) (hy : y.size = 16) (hy1 : y.all (·.oneCell') = true) (hr : r.size = 16) (hr1 : r.all (·.oneCell') = true) (i : Int)
    (hc : ∀ W, Calls Try.prog 32 #[.agg x, .agg y, .int .u8 i] W fun e w' => e = .returned (.agg r) ∧ Below W.heap.size W w') (w : World) :
    Calls Try.prog 11 #[.int .u8 39, .agg x, .agg y, .int .u8 i] w fun e w' => e = .returned (.agg r) ∧ Below w.heap.size w w' := by
  have HC := Lib.hid hc
  clear hc
  have h5 := ((R16.new w x hx hx1).alloc (.cells y 22)).alloc (.cells #[.int .u8 0, .int .u8 0, .int .u8 0, .int .u8 0, .int .u8 0, .int .u8 0, .int .u8 0, .int .u8 0, .int .u8 0, .int .u8 0, .int .u8 0, .int .u8 0, .int .u8 0, .int .u8 0, .int .u8 0, .int .u8 0] 22)
  have h6 := (R16.new (w.alloc (.cells x 22)) y hy hy1).alloc (.cells #[.int .u8 0, .int .u8 0, .int .u8 0, .int .u8 0, .int .u8 0, .int .u8 0, .int .u8 0, .int .u8 0, .int .u8 0, .int .u8 0, .int .u8 0, .int .u8 0, .int .u8 0, .int .u8 0, .int .u8 0, .int .u8 0] 22)
  have h8 := R16.newz ((w.alloc (.cells x 22)).alloc (.cells y 22))
  have hB := Lib.hid ((((Below.refl _ w).alloc (Nat.le_refl _) (.cells x 22)).alloc (by simp) (.cells y 22)).alloc (by simp; omega) (.cells #[.int .u8 0, .int .u8 0, .int .u8 0, .int .u8 0, .int .u8 0, .int .u8 0, .int .u8 0, .int .u8 0, .int .u8 0, .int .u8 0, .int .u8 0, .int .u8 0, .int .u8 0, .int .u8 0, .int .u8 0, .int .u8 0] 22))
  simp only [World.size_alloc] at h5 h6 h8
  have H5 := Lib.hid h5
  have H6 := Lib.hid h6
  have H8 := Lib.hid h8
  clear h5 h6 h8
  go_enter Try.func11, Try.ntmps11
  go_upto_region 1 with fail
  generalize World.alloc (World.alloc (World.alloc _ _) _) _ = W1 at *
  go_wp2_with fail
  go_at_call 20
  refine (ways_any _).mono ?_
  rintro e w1 ⟨rfl, hw1⟩
  have hb1 : Below W1.heap.size W1 w1 := by rw [hw1]; exact ways_below _ _
  have hobj : w1.heap[W1.heap.size]? = some (.map #[mE 35 (.func (Fn.func 26) #[] #[]) 0, mE 36 (.func (Fn.func 27) #[] #[]) 1, mE 37 (.func (Fn.func 28) #[] #[]) 2, mE 38 (.func (Fn.func 30) #[] #[]) 3, mE 39 (.func (Fn.func 32) #[] #[]) 4] 5) := by rw [hw1]; exact World.putObj_heap_same (by simp)
  have K5 := Lib.hid (H5.out.keep hb1)
  have K6 := Lib.hid (H6.out.keep hb1)
  have K8 := Lib.hid (H8.out.keep hb1)
  have KB := Lib.hid (hB.out.trans (hb1.mono hB.out.size))
  clear H5 H6 H8 hB hb1 hw1
  have hlk := look_at _ _ (.func (Fn.func 32) #[] #[]) 39 hobj ⟨_, rfl⟩
  clear hobj
  go_wp2_with (first | (refine wpList_load22 rfl rfl rfl K5.out ?_) | (refine wpList_load22 rfl rfl rfl K6.out ?_))
  go_at_call 32
  refine (HC.out _).mono ?_
  rintro e w2 ⟨rfl, hb2⟩
  have L8 := Lib.hid (K8.out.keep hb2)
  have LB := Lib.hid (KB.out.trans (hb2.mono KB.out.size))
  clear K5 K6 K8 KB hb2
  go_wp2_with (refine wpList_store22 rfl rfl rfl rfl L8.out hr hr1 ?_)
  have h9 := Lib.hid (L8.out.row hr hr1)
  have hB9 := Lib.hid (below_row (vs := r) LB.out (show w.heap.size ≤ w.heap.size + 1 + 1 by omega))
  generalize World.setRow _ _ _ = W2 at *
  go_wp2
  exact bodyPost_ret (v := .agg r) (results_cell_row rfl _ _ _ 22 _ (0, 0) _ rfl h9.out.1 Try.underlying22 rfl (by rw [h9.out.2.1]; exact info22)) rfl ⟨rfl, hB9.out⟩
end Go.Proofs.Ytldicconopcipaa
