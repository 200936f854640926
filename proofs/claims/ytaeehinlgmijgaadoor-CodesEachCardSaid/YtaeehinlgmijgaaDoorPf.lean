/- CodesPrefix' walk. -/
import Derived.Test.YtaeehinlgmijgaaDoorEq
namespace Go.Proofs.YtaeehinlgmijgaaDoor
open Go.RowKit Go.Shelf
set_option linter.unusedVariables false
set_option linter.unusedSimpArgs false
attribute [local go_sem] Oper.semAt_some
def FindAny (p m o d : Int) (f : Fm) (b : Bool) : Prop := ∀ w, GL w → Calls Tryd.prog 10 #[.int .u8 p, .int .u8 m, .int .u8 o, .int .i64 d] w fun e W' => e = .returned (.tuple #[f.v, .bool b]) ∧ Below w.heap.size w W'
def DigAny (p m o : Int) (b : Bool) : Prop := ∀ w, GL w → Calls Tryd.prog 14 #[.int .u8 p, .int .u8 m, .int .u8 o] w fun e W' => e = .returned (.bool b) ∧ Below w.heap.size w W'
theorem FindAny.at {f : Fm} {b : Bool} {p m o d : Int} {w : World} (h : FindAny p m o d f b) (hG : GL w) : Calls Tryd.prog 10 #[.int .u8 p, .int .u8 m, .int .u8 o, .int .i64 d] w fun e W' => e = .returned (.tuple #[f.v, .bool b]) ∧ Below w.heap.size w W' := h w hG
theorem DigAny.at {b : Bool} {p m o : Int} {w : World} (h : DigAny p m o b) (hG : GL w) : Calls Tryd.prog 14 #[.int .u8 p, .int .u8 m, .int .u8 o] w fun e W' => e = .returned (.bool b) ∧ Below w.heap.size w W' := h w hG
theorem wpList_zero23 {ops : Array Oper} {Q : Exit → Act → World → Prop} {o : Oper} {rest : List Oper} {a : Act} {W : World}
    (ho : o.op = .build 23 #[]) (hw : Region.wanted o (yielded ops a.tmps) = true)
    (hn : wpList Tryd.prog ops Q rest (a.put o.dst zf.v) W) : wpList Tryd.prog ops Q (o :: rest) a W := by
  have e : (execOp a.eval o).run Tryd.prog W = .ok (.value zf.v) W := by
    unfold execOp
    rw [ho]
    kernel_rfl
  unfold wpList
  rw [if_pos hw]
  refine .inl ?_
  unfold Oper.wp
  rw [e, Oper.upon_value]
  exact hn
def isT (e : Ending) (w w' : World) : Prop := e = .returned (.bool true) ∧ Below w.heap.size w w'
set_option maxRecDepth 1000000 in
set_option maxHeartbeats 4000000 in
theorem pf_t0 (m o d : Int) (x : Fm) (hz : x ∈ zformsL) (hne : x ≠ zf) (M : decide (3 < m) = false) (X0 : x.cs[0]? = some (.int .u8 0)) (X1 : x.cs[1]? = some (.int .u8 m)) (X11 : x.cs[11]? = some (.bool false)) (wd : Int) (X7 : x.cs[7]? = some (.int .i64 wd)) (WD : (wd == 16) = false) (hF : Hid (FindAny 0 m o d x true)) (w : World) (hG : GL w) :
    Calls Tryd.prog 7 #[.int .u8 0, .int .u8 m, .int .u8 o, .int .i64 d] w fun e w' => e = .returned (.bool true) ∧ Below w.heap.size w w' := by
  have HW0 := Lib.hid (WS.new hG)
  clear hG
  have HX := Lib.hid (And.intro X0 (And.intro X1 (And.intro X7 X11)))
  have EQ := fun w => eq23_ne hz zf_z hne w
  clear X0 X1 X7 X11 hz hne
  go_enter Tryd.func7, Tryd.ntmps7
  go_wp2_with (first | (go_at_call 10; refine (FindAny.at hF.out HW0.out.2.1).mono ?_) | fail)
  first | (rintro e W1 rfl hb) | (rintro e W1 ⟨rfl, hb⟩)
  have HW1 := Lib.hid (HW0.out.keep hb)
  clear hb
  go_upto_region 4 with (first  | (refine wpList_store23 (u := zf) (f := x) rfl rfl rfl rfl (show FB _ _ zf from heap_alloc_last _ _) ?_; generalize hW : World.setRow _ _ _ = W2; have HW2 : Hid (WS w ((W1.heap.size, x) :: []) W2) := Lib.hid (by rw [← hW]; exact WS.store HW1.out x _ _ rfl); clear hW; have c0 := (HW2.out.1 (W1.heap.size, x) (by simp)).at 0 _ HX.out.1; have c1 := (HW2.out.1 (W1.heap.size, x) (by simp)).at 1 _ HX.out.2.1; have c7 := (HW2.out.1 (W1.heap.size, x) (by simp)).at 7 _ HX.out.2.2.1; have c11 := (HW2.out.1 (W1.heap.size, x) (by simp)).at 11 _ HX.out.2.2.2) | fail)
  refine wp_region_list ?_
  refine wpList_value (.bool true) rfl (by kernel_rfl) ?_
  refine wpList_load23 (f := x) rfl (by kernel_rfl) (by kernel_rfl) (HW2.out.1 (W1.heap.size, x) (by simp)) ?_
  refine wpList_zero23 rfl (by kernel_rfl) ?_
  refine wpList_neq23 (f := x) (g := zf) rfl (by kernel_rfl) (by kernel_rfl) (by kernel_rfl) (EQ _) ?_
  simp only [Act.put, List.setIfInBounds_toArray, List.set_cons_zero, List.set_cons_succ, List.getElem_toArray, List.getElem_cons_succ, List.getElem_cons_zero, Bool.not_true, Bool.not_false]
  go_wp2_with (first | (go_at_call 18; refine (wakes_any _ HW2.out.2.1).mono ?_) | fail)
  first | (rintro e W3 rfl hb) | (rintro e W3 ⟨rfl, hb⟩)
  have HW3 := Lib.hid (HW2.out.keep hb)
  clear hb
  go_wp2_with fail
  go_ret
  exact ⟨rfl, HW3.out.2.2⟩
set_option maxRecDepth 1000000 in
set_option maxHeartbeats 4000000 in
theorem pf_t66 (m o d : Int) (x : Fm) (hz : x ∈ zformsL) (hne : x ≠ zf) (M : decide (3 < m) = false) (X0 : x.cs[0]? = some (.int .u8 102)) (X1 : x.cs[1]? = some (.int .u8 m)) (X11 : x.cs[11]? = some (.bool true)) (X7 : x.cs[7]? = some (.int .i64 16)) (hF : Hid (FindAny 102 m o d x true)) (w : World) (hG : GL w) :
    Calls Tryd.prog 7 #[.int .u8 102, .int .u8 m, .int .u8 o, .int .i64 d] w fun e w' => e = .returned (.bool true) ∧ Below w.heap.size w w' := by
  have HW0 := Lib.hid (WS.new hG)
  clear hG
  have HX := Lib.hid (And.intro X0 (And.intro X1 (And.intro X7 X11)))
  have EQ := fun w => eq23_ne hz zf_z hne w
  clear X0 X1 X7 X11 hz hne
  go_enter Tryd.func7, Tryd.ntmps7
  go_wp2_with (first | (go_at_call 10; refine (FindAny.at hF.out HW0.out.2.1).mono ?_) | fail)
  first | (rintro e W1 rfl hb) | (rintro e W1 ⟨rfl, hb⟩)
  have HW1 := Lib.hid (HW0.out.keep hb)
  clear hb
  go_upto_region 4 with (first  | (refine wpList_store23 (u := zf) (f := x) rfl rfl rfl rfl (show FB _ _ zf from heap_alloc_last _ _) ?_; generalize hW : World.setRow _ _ _ = W2; have HW2 : Hid (WS w ((W1.heap.size, x) :: []) W2) := Lib.hid (by rw [← hW]; exact WS.store HW1.out x _ _ rfl); clear hW; have c0 := (HW2.out.1 (W1.heap.size, x) (by simp)).at 0 _ HX.out.1; have c1 := (HW2.out.1 (W1.heap.size, x) (by simp)).at 1 _ HX.out.2.1; have c7 := (HW2.out.1 (W1.heap.size, x) (by simp)).at 7 _ HX.out.2.2.1; have c11 := (HW2.out.1 (W1.heap.size, x) (by simp)).at 11 _ HX.out.2.2.2) | fail)
  refine wp_region_list ?_
  refine wpList_value (.bool true) rfl (by kernel_rfl) ?_
  refine wpList_load23 (f := x) rfl (by kernel_rfl) (by kernel_rfl) (HW2.out.1 (W1.heap.size, x) (by simp)) ?_
  refine wpList_zero23 rfl (by kernel_rfl) ?_
  refine wpList_neq23 (f := x) (g := zf) rfl (by kernel_rfl) (by kernel_rfl) (by kernel_rfl) (EQ _) ?_
  simp only [Act.put, List.setIfInBounds_toArray, List.set_cons_zero, List.set_cons_succ, List.getElem_toArray, List.getElem_cons_succ, List.getElem_cons_zero, Bool.not_true, Bool.not_false]
  go_wp2_with (first | (go_at_call 18; refine (wakes_any _ HW2.out.2.1).mono ?_) | fail)
  first | (rintro e W3 rfl hb) | (rintro e W3 ⟨rfl, hb⟩)
  have HW3 := Lib.hid (HW2.out.keep hb)
  clear hb
  go_wp2_with fail
  go_ret
  exact ⟨rfl, HW3.out.2.2⟩
set_option maxRecDepth 1000000 in
set_option maxHeartbeats 4000000 in
theorem pf_tf3 (m o d : Int) (x : Fm) (hz : x ∈ zformsL) (hne : x ≠ zf) (M : decide (3 < m) = false) (X0 : x.cs[0]? = some (.int .u8 243)) (X1 : x.cs[1]? = some (.int .u8 m)) (X11 : x.cs[11]? = some (.bool true)) (X7 : x.cs[7]? = some (.int .i64 16)) (hF : Hid (FindAny 243 m o d x true)) (w : World) (hG : GL w) :
    Calls Tryd.prog 7 #[.int .u8 243, .int .u8 m, .int .u8 o, .int .i64 d] w fun e w' => e = .returned (.bool true) ∧ Below w.heap.size w w' := by
  have HW0 := Lib.hid (WS.new hG)
  clear hG
  have HX := Lib.hid (And.intro X0 (And.intro X1 (And.intro X7 X11)))
  have EQ := fun w => eq23_ne hz zf_z hne w
  clear X0 X1 X7 X11 hz hne
  go_enter Tryd.func7, Tryd.ntmps7
  go_wp2_with (first | (go_at_call 10; refine (FindAny.at hF.out HW0.out.2.1).mono ?_) | fail)
  first | (rintro e W1 rfl hb) | (rintro e W1 ⟨rfl, hb⟩)
  have HW1 := Lib.hid (HW0.out.keep hb)
  clear hb
  go_upto_region 4 with (first  | (refine wpList_store23 (u := zf) (f := x) rfl rfl rfl rfl (show FB _ _ zf from heap_alloc_last _ _) ?_; generalize hW : World.setRow _ _ _ = W2; have HW2 : Hid (WS w ((W1.heap.size, x) :: []) W2) := Lib.hid (by rw [← hW]; exact WS.store HW1.out x _ _ rfl); clear hW; have c0 := (HW2.out.1 (W1.heap.size, x) (by simp)).at 0 _ HX.out.1; have c1 := (HW2.out.1 (W1.heap.size, x) (by simp)).at 1 _ HX.out.2.1; have c7 := (HW2.out.1 (W1.heap.size, x) (by simp)).at 7 _ HX.out.2.2.1; have c11 := (HW2.out.1 (W1.heap.size, x) (by simp)).at 11 _ HX.out.2.2.2) | fail)
  refine wp_region_list ?_
  refine wpList_value (.bool true) rfl (by kernel_rfl) ?_
  refine wpList_load23 (f := x) rfl (by kernel_rfl) (by kernel_rfl) (HW2.out.1 (W1.heap.size, x) (by simp)) ?_
  refine wpList_zero23 rfl (by kernel_rfl) ?_
  refine wpList_neq23 (f := x) (g := zf) rfl (by kernel_rfl) (by kernel_rfl) (by kernel_rfl) (EQ _) ?_
  simp only [Act.put, List.setIfInBounds_toArray, List.set_cons_zero, List.set_cons_succ, List.getElem_toArray, List.getElem_cons_succ, List.getElem_cons_zero, Bool.not_true, Bool.not_false]
  go_wp2_with (first | (go_at_call 18; refine (wakes_any _ HW2.out.2.1).mono ?_) | fail)
  first | (rintro e W3 rfl hb) | (rintro e W3 ⟨rfl, hb⟩)
  have HW3 := Lib.hid (HW2.out.keep hb)
  clear hb
  go_wp2_with fail
  go_ret
  exact ⟨rfl, HW3.out.2.2⟩
set_option maxRecDepth 1000000 in
set_option maxHeartbeats 4000000 in
theorem pf_f0a (m o d : Int) (x : Fm) (hx : x = zf) (M : decide (3 < m) = false) (hF : Hid (FindAny 0 m o d x false)) (w : World) (hG : GL w) :
    Calls Tryd.prog 7 #[.int .u8 0, .int .u8 m, .int .u8 o, .int .i64 d] w fun e w' => e = .returned (.bool true) ∧ Below w.heap.size w w' := by
  have HW0 := Lib.hid (WS.new hG)
  clear hG
  have EQ : ∀ w, (Op.equalIn 10000 23 x.v zf.v).run Tryd.prog w = .ok true w := fun w => by rw [hx]; exact eq23_same zf_z w
  clear hx
  go_enter Tryd.func7, Tryd.ntmps7
  go_wp2_with (first | (go_at_call 10; refine (FindAny.at hF.out HW0.out.2.1).mono ?_) | fail)
  first | (rintro e W1 rfl hb) | (rintro e W1 ⟨rfl, hb⟩)
  have HW1 := Lib.hid (HW0.out.keep hb)
  clear hb
  go_upto_region 4 with (first  | (refine wpList_store23 (u := zf) (f := x) rfl rfl rfl rfl (show FB _ _ zf from heap_alloc_last _ _) ?_; generalize hW : World.setRow _ _ _ = W2; have HW2 : Hid (WS w ((W1.heap.size, x) :: []) W2) := Lib.hid (by rw [← hW]; exact WS.store HW1.out x _ _ rfl); clear hW) | fail)
  refine wp_region_list ?_
  refine wpList_value (.bool false) rfl (by kernel_rfl) ?_
  refine wpList_load23 (f := x) rfl (by kernel_rfl) (by kernel_rfl) (HW2.out.1 (W1.heap.size, x) (by simp)) ?_
  refine wpList_zero23 rfl (by kernel_rfl) ?_
  refine wpList_neq23 (f := x) (g := zf) rfl (by kernel_rfl) (by kernel_rfl) (by kernel_rfl) (EQ _) ?_
  simp only [Act.put, List.setIfInBounds_toArray, List.set_cons_zero, List.set_cons_succ, List.getElem_toArray, List.getElem_cons_succ, List.getElem_cons_zero, Bool.not_true, Bool.not_false]
  go_wp2_with (first | (go_at_call 18; refine (wakes_any _ HW2.out.2.1).mono ?_) | fail)
  first | (rintro e W3 rfl hb) | (rintro e W3 ⟨rfl, hb⟩)
  have HW3 := Lib.hid (HW2.out.keep hb)
  clear hb
  go_wp2_with fail
  go_ret
  exact ⟨rfl, HW3.out.2.2⟩
set_option maxRecDepth 1000000 in
set_option maxHeartbeats 4000000 in
theorem pf_f0b (m o d : Int) (x : Fm) (hx : x = zf) (M : decide (3 < m) = true) (hF : Hid (FindAny 0 m o d x false)) (hD : Hid (DigAny 0 m o false)) (w : World) (hG : GL w) :
    Calls Tryd.prog 7 #[.int .u8 0, .int .u8 m, .int .u8 o, .int .i64 d] w fun e w' => e = .returned (.bool true) ∧ Below w.heap.size w w' := by
  have HW0 := Lib.hid (WS.new hG)
  clear hG
  have EQ : ∀ w, (Op.equalIn 10000 23 x.v zf.v).run Tryd.prog w = .ok true w := fun w => by rw [hx]; exact eq23_same zf_z w
  clear hx
  go_enter Tryd.func7, Tryd.ntmps7
  go_wp2_with (first | (go_at_call 10; refine (FindAny.at hF.out HW0.out.2.1).mono ?_) | fail)
  first | (rintro e W1 rfl hb) | (rintro e W1 ⟨rfl, hb⟩)
  have HW1 := Lib.hid (HW0.out.keep hb)
  clear hb
  go_wp2_with (first | (go_at_call 14; refine (DigAny.at hD.out HW2.out.2.1).mono ?_) | (refine wpList_store23 (u := zf) (f := x) rfl rfl rfl rfl (show FB _ _ zf from heap_alloc_last _ _) ?_; generalize hW : World.setRow _ _ _ = W2; have HW2 : Hid (WS w ((W1.heap.size, x) :: []) W2) := Lib.hid (by rw [← hW]; exact WS.store HW1.out x _ _ rfl); clear hW) | fail)
  first | (rintro e W3 rfl hb) | (rintro e W3 ⟨rfl, hb⟩)
  have HW3 := Lib.hid (HW2.out.keep hb)
  clear hb
  go_upto_region 4 with (first  | fail)
  refine wp_region_list ?_
  refine wpList_value (.bool false) rfl (by kernel_rfl) ?_
  refine wpList_load23 (f := x) rfl (by kernel_rfl) (by kernel_rfl) (HW3.out.1 (W1.heap.size, x) (by simp)) ?_
  refine wpList_zero23 rfl (by kernel_rfl) ?_
  refine wpList_neq23 (f := x) (g := zf) rfl (by kernel_rfl) (by kernel_rfl) (by kernel_rfl) (EQ _) ?_
  simp only [Act.put, List.setIfInBounds_toArray, List.set_cons_zero, List.set_cons_succ, List.getElem_toArray, List.getElem_cons_succ, List.getElem_cons_zero, Bool.not_true, Bool.not_false]
  go_wp2_with (first | (go_at_call 18; refine (wakes_any _ HW3.out.2.1).mono ?_) | fail)
  first | (rintro e W4 rfl hb) | (rintro e W4 ⟨rfl, hb⟩)
  have HW4 := Lib.hid (HW3.out.keep hb)
  clear hb
  go_wp2_with fail
  go_ret
  exact ⟨rfl, HW4.out.2.2⟩
set_option maxRecDepth 1000000 in
set_option maxHeartbeats 4000000 in
theorem pf_f66a (m o d : Int) (x : Fm) (hx : x = zf) (M : decide (3 < m) = false) (hF : Hid (FindAny 102 m o d x false)) (w : World) (hG : GL w) :
    Calls Tryd.prog 7 #[.int .u8 102, .int .u8 m, .int .u8 o, .int .i64 d] w fun e w' => e = .returned (.bool true) ∧ Below w.heap.size w w' := by
  have HW0 := Lib.hid (WS.new hG)
  clear hG
  have EQ : ∀ w, (Op.equalIn 10000 23 x.v zf.v).run Tryd.prog w = .ok true w := fun w => by rw [hx]; exact eq23_same zf_z w
  clear hx
  go_enter Tryd.func7, Tryd.ntmps7
  go_wp2_with (first | (go_at_call 10; refine (FindAny.at hF.out HW0.out.2.1).mono ?_) | fail)
  first | (rintro e W1 rfl hb) | (rintro e W1 ⟨rfl, hb⟩)
  have HW1 := Lib.hid (HW0.out.keep hb)
  clear hb
  go_upto_region 4 with (first  | (refine wpList_store23 (u := zf) (f := x) rfl rfl rfl rfl (show FB _ _ zf from heap_alloc_last _ _) ?_; generalize hW : World.setRow _ _ _ = W2; have HW2 : Hid (WS w ((W1.heap.size, x) :: []) W2) := Lib.hid (by rw [← hW]; exact WS.store HW1.out x _ _ rfl); clear hW) | fail)
  refine wp_region_list ?_
  refine wpList_value (.bool false) rfl (by kernel_rfl) ?_
  refine wpList_load23 (f := x) rfl (by kernel_rfl) (by kernel_rfl) (HW2.out.1 (W1.heap.size, x) (by simp)) ?_
  refine wpList_zero23 rfl (by kernel_rfl) ?_
  refine wpList_neq23 (f := x) (g := zf) rfl (by kernel_rfl) (by kernel_rfl) (by kernel_rfl) (EQ _) ?_
  simp only [Act.put, List.setIfInBounds_toArray, List.set_cons_zero, List.set_cons_succ, List.getElem_toArray, List.getElem_cons_succ, List.getElem_cons_zero, Bool.not_true, Bool.not_false]
  go_wp2_with (first | (go_at_call 18; refine (wakes_any _ HW2.out.2.1).mono ?_) | fail)
  first | (rintro e W3 rfl hb) | (rintro e W3 ⟨rfl, hb⟩)
  have HW3 := Lib.hid (HW2.out.keep hb)
  clear hb
  go_wp2_with fail
  go_ret
  exact ⟨rfl, HW3.out.2.2⟩
set_option maxRecDepth 1000000 in
set_option maxHeartbeats 4000000 in
theorem pf_f66b (m o d : Int) (x : Fm) (hx : x = zf) (M : decide (3 < m) = true) (hF : Hid (FindAny 102 m o d x false)) (hD : Hid (DigAny 102 m o false)) (w : World) (hG : GL w) :
    Calls Tryd.prog 7 #[.int .u8 102, .int .u8 m, .int .u8 o, .int .i64 d] w fun e w' => e = .returned (.bool true) ∧ Below w.heap.size w w' := by
  have HW0 := Lib.hid (WS.new hG)
  clear hG
  have EQ : ∀ w, (Op.equalIn 10000 23 x.v zf.v).run Tryd.prog w = .ok true w := fun w => by rw [hx]; exact eq23_same zf_z w
  clear hx
  go_enter Tryd.func7, Tryd.ntmps7
  go_wp2_with (first | (go_at_call 10; refine (FindAny.at hF.out HW0.out.2.1).mono ?_) | fail)
  first | (rintro e W1 rfl hb) | (rintro e W1 ⟨rfl, hb⟩)
  have HW1 := Lib.hid (HW0.out.keep hb)
  clear hb
  go_wp2_with (first | (go_at_call 14; refine (DigAny.at hD.out HW2.out.2.1).mono ?_) | (refine wpList_store23 (u := zf) (f := x) rfl rfl rfl rfl (show FB _ _ zf from heap_alloc_last _ _) ?_; generalize hW : World.setRow _ _ _ = W2; have HW2 : Hid (WS w ((W1.heap.size, x) :: []) W2) := Lib.hid (by rw [← hW]; exact WS.store HW1.out x _ _ rfl); clear hW) | fail)
  first | (rintro e W3 rfl hb) | (rintro e W3 ⟨rfl, hb⟩)
  have HW3 := Lib.hid (HW2.out.keep hb)
  clear hb
  go_upto_region 4 with (first  | fail)
  refine wp_region_list ?_
  refine wpList_value (.bool false) rfl (by kernel_rfl) ?_
  refine wpList_load23 (f := x) rfl (by kernel_rfl) (by kernel_rfl) (HW3.out.1 (W1.heap.size, x) (by simp)) ?_
  refine wpList_zero23 rfl (by kernel_rfl) ?_
  refine wpList_neq23 (f := x) (g := zf) rfl (by kernel_rfl) (by kernel_rfl) (by kernel_rfl) (EQ _) ?_
  simp only [Act.put, List.setIfInBounds_toArray, List.set_cons_zero, List.set_cons_succ, List.getElem_toArray, List.getElem_cons_succ, List.getElem_cons_zero, Bool.not_true, Bool.not_false]
  go_wp2_with (first | (go_at_call 18; refine (wakes_any _ HW3.out.2.1).mono ?_) | fail)
  first | (rintro e W4 rfl hb) | (rintro e W4 ⟨rfl, hb⟩)
  have HW4 := Lib.hid (HW3.out.keep hb)
  clear hb
  go_wp2_with fail
  go_ret
  exact ⟨rfl, HW4.out.2.2⟩
set_option maxRecDepth 1000000 in
set_option maxHeartbeats 4000000 in
theorem pf_ff3a (m o d : Int) (x : Fm) (hx : x = zf) (M : decide (3 < m) = false) (hF : Hid (FindAny 243 m o d x false)) (w : World) (hG : GL w) :
    Calls Tryd.prog 7 #[.int .u8 243, .int .u8 m, .int .u8 o, .int .i64 d] w fun e w' => e = .returned (.bool true) ∧ Below w.heap.size w w' := by
  have HW0 := Lib.hid (WS.new hG)
  clear hG
  have EQ : ∀ w, (Op.equalIn 10000 23 x.v zf.v).run Tryd.prog w = .ok true w := fun w => by rw [hx]; exact eq23_same zf_z w
  clear hx
  go_enter Tryd.func7, Tryd.ntmps7
  go_wp2_with (first | (go_at_call 10; refine (FindAny.at hF.out HW0.out.2.1).mono ?_) | fail)
  first | (rintro e W1 rfl hb) | (rintro e W1 ⟨rfl, hb⟩)
  have HW1 := Lib.hid (HW0.out.keep hb)
  clear hb
  go_upto_region 4 with (first  | (refine wpList_store23 (u := zf) (f := x) rfl rfl rfl rfl (show FB _ _ zf from heap_alloc_last _ _) ?_; generalize hW : World.setRow _ _ _ = W2; have HW2 : Hid (WS w ((W1.heap.size, x) :: []) W2) := Lib.hid (by rw [← hW]; exact WS.store HW1.out x _ _ rfl); clear hW) | fail)
  refine wp_region_list ?_
  refine wpList_value (.bool false) rfl (by kernel_rfl) ?_
  refine wpList_load23 (f := x) rfl (by kernel_rfl) (by kernel_rfl) (HW2.out.1 (W1.heap.size, x) (by simp)) ?_
  refine wpList_zero23 rfl (by kernel_rfl) ?_
  refine wpList_neq23 (f := x) (g := zf) rfl (by kernel_rfl) (by kernel_rfl) (by kernel_rfl) (EQ _) ?_
  simp only [Act.put, List.setIfInBounds_toArray, List.set_cons_zero, List.set_cons_succ, List.getElem_toArray, List.getElem_cons_succ, List.getElem_cons_zero, Bool.not_true, Bool.not_false]
  go_wp2_with (first | (go_at_call 18; refine (wakes_any _ HW2.out.2.1).mono ?_) | fail)
  first | (rintro e W3 rfl hb) | (rintro e W3 ⟨rfl, hb⟩)
  have HW3 := Lib.hid (HW2.out.keep hb)
  clear hb
  go_wp2_with fail
  go_ret
  exact ⟨rfl, HW3.out.2.2⟩
set_option maxRecDepth 1000000 in
set_option maxHeartbeats 4000000 in
theorem pf_ff3b (m o d : Int) (x : Fm) (hx : x = zf) (M : decide (3 < m) = true) (hF : Hid (FindAny 243 m o d x false)) (hD : Hid (DigAny 243 m o false)) (w : World) (hG : GL w) :
    Calls Tryd.prog 7 #[.int .u8 243, .int .u8 m, .int .u8 o, .int .i64 d] w fun e w' => e = .returned (.bool true) ∧ Below w.heap.size w w' := by
  have HW0 := Lib.hid (WS.new hG)
  clear hG
  have EQ : ∀ w, (Op.equalIn 10000 23 x.v zf.v).run Tryd.prog w = .ok true w := fun w => by rw [hx]; exact eq23_same zf_z w
  clear hx
  go_enter Tryd.func7, Tryd.ntmps7
  go_wp2_with (first | (go_at_call 10; refine (FindAny.at hF.out HW0.out.2.1).mono ?_) | fail)
  first | (rintro e W1 rfl hb) | (rintro e W1 ⟨rfl, hb⟩)
  have HW1 := Lib.hid (HW0.out.keep hb)
  clear hb
  go_wp2_with (first | (go_at_call 14; refine (DigAny.at hD.out HW2.out.2.1).mono ?_) | (refine wpList_store23 (u := zf) (f := x) rfl rfl rfl rfl (show FB _ _ zf from heap_alloc_last _ _) ?_; generalize hW : World.setRow _ _ _ = W2; have HW2 : Hid (WS w ((W1.heap.size, x) :: []) W2) := Lib.hid (by rw [← hW]; exact WS.store HW1.out x _ _ rfl); clear hW) | fail)
  first | (rintro e W3 rfl hb) | (rintro e W3 ⟨rfl, hb⟩)
  have HW3 := Lib.hid (HW2.out.keep hb)
  clear hb
  go_upto_region 4 with (first  | fail)
  refine wp_region_list ?_
  refine wpList_value (.bool false) rfl (by kernel_rfl) ?_
  refine wpList_load23 (f := x) rfl (by kernel_rfl) (by kernel_rfl) (HW3.out.1 (W1.heap.size, x) (by simp)) ?_
  refine wpList_zero23 rfl (by kernel_rfl) ?_
  refine wpList_neq23 (f := x) (g := zf) rfl (by kernel_rfl) (by kernel_rfl) (by kernel_rfl) (EQ _) ?_
  simp only [Act.put, List.setIfInBounds_toArray, List.set_cons_zero, List.set_cons_succ, List.getElem_toArray, List.getElem_cons_succ, List.getElem_cons_zero, Bool.not_true, Bool.not_false]
  go_wp2_with (first | (go_at_call 18; refine (wakes_any _ HW3.out.2.1).mono ?_) | fail)
  first | (rintro e W4 rfl hb) | (rintro e W4 ⟨rfl, hb⟩)
  have HW4 := Lib.hid (HW3.out.keep hb)
  clear hb
  go_wp2_with fail
  go_ret
  exact ⟨rfl, HW4.out.2.2⟩
set_option maxRecDepth 1000000 in
set_option maxHeartbeats 4000000 in
theorem pf_fna (p : Int) (m o d : Int) (x : Fm) (hx : x = zf) (P0 : ¬p = 0) (P1 : ¬p = 102) (P2 : ¬p = 243) (M : decide (3 < m) = false) (hF : Hid (FindAny p m o d x false)) (hD : Hid (DigAny p m o false)) (w : World) (hG : GL w) :
    Calls Tryd.prog 7 #[.int .u8 p, .int .u8 m, .int .u8 o, .int .i64 d] w fun e w' => e = .returned (.bool true) ∧ Below w.heap.size w w' := by
  have HW0 := Lib.hid (WS.new hG)
  clear hG
  have EQ : ∀ w, (Op.equalIn 10000 23 x.v zf.v).run Tryd.prog w = .ok true w := fun w => by rw [hx]; exact eq23_same zf_z w
  clear hx
  go_enter Tryd.func7, Tryd.ntmps7
  go_wp2_with (first | (go_at_call 10; refine (FindAny.at hF.out HW0.out.2.1).mono ?_) | fail)
  first | (rintro e W1 rfl hb) | (rintro e W1 ⟨rfl, hb⟩)
  have HW1 := Lib.hid (HW0.out.keep hb)
  clear hb
  go_wp2_with (first | (go_at_call 14; refine (DigAny.at hD.out HW2.out.2.1).mono ?_) | (refine wpList_store23 (u := zf) (f := x) rfl rfl rfl rfl (show FB _ _ zf from heap_alloc_last _ _) ?_; generalize hW : World.setRow _ _ _ = W2; have HW2 : Hid (WS w ((W1.heap.size, x) :: []) W2) := Lib.hid (by rw [← hW]; exact WS.store HW1.out x _ _ rfl); clear hW) | fail)
  first | (rintro e W3 rfl hb) | (rintro e W3 ⟨rfl, hb⟩)
  have HW3 := Lib.hid (HW2.out.keep hb)
  clear hb
  go_upto_region 4 with (first  | fail)
  refine wp_region_list ?_
  refine wpList_value (.bool false) rfl (by kernel_rfl) ?_
  refine wpList_load23 (f := x) rfl (by kernel_rfl) (by kernel_rfl) (HW3.out.1 (W1.heap.size, x) (by simp)) ?_
  refine wpList_zero23 rfl (by kernel_rfl) ?_
  refine wpList_neq23 (f := x) (g := zf) rfl (by kernel_rfl) (by kernel_rfl) (by kernel_rfl) (EQ _) ?_
  simp only [Act.put, List.setIfInBounds_toArray, List.set_cons_zero, List.set_cons_succ, List.getElem_toArray, List.getElem_cons_succ, List.getElem_cons_zero, Bool.not_true, Bool.not_false]
  go_wp2_with (first | (go_at_call 18; refine (wakes_any _ HW3.out.2.1).mono ?_) | fail)
  first | (rintro e W4 rfl hb) | (rintro e W4 ⟨rfl, hb⟩)
  have HW4 := Lib.hid (HW3.out.keep hb)
  clear hb
  go_wp2_with fail
  go_ret
  exact ⟨rfl, HW4.out.2.2⟩
set_option maxRecDepth 1000000 in
set_option maxHeartbeats 4000000 in
theorem pf_fnb (p : Int) (m o d : Int) (x : Fm) (hx : x = zf) (P0 : ¬p = 0) (P1 : ¬p = 102) (P2 : ¬p = 243) (M : decide (3 < m) = true) (hF : Hid (FindAny p m o d x false)) (hD : Hid (DigAny p m o false)) (w : World) (hG : GL w) :
    Calls Tryd.prog 7 #[.int .u8 p, .int .u8 m, .int .u8 o, .int .i64 d] w fun e w' => e = .returned (.bool true) ∧ Below w.heap.size w w' := by
  have HW0 := Lib.hid (WS.new hG)
  clear hG
  have EQ : ∀ w, (Op.equalIn 10000 23 x.v zf.v).run Tryd.prog w = .ok true w := fun w => by rw [hx]; exact eq23_same zf_z w
  clear hx
  go_enter Tryd.func7, Tryd.ntmps7
  go_wp2_with (first | (go_at_call 10; refine (FindAny.at hF.out HW0.out.2.1).mono ?_) | fail)
  first | (rintro e W1 rfl hb) | (rintro e W1 ⟨rfl, hb⟩)
  have HW1 := Lib.hid (HW0.out.keep hb)
  clear hb
  go_wp2_with (first | (go_at_call 14; refine (DigAny.at hD.out HW2.out.2.1).mono ?_) | (refine wpList_store23 (u := zf) (f := x) rfl rfl rfl rfl (show FB _ _ zf from heap_alloc_last _ _) ?_; generalize hW : World.setRow _ _ _ = W2; have HW2 : Hid (WS w ((W1.heap.size, x) :: []) W2) := Lib.hid (by rw [← hW]; exact WS.store HW1.out x _ _ rfl); clear hW) | fail)
  first | (rintro e W3 rfl hb) | (rintro e W3 ⟨rfl, hb⟩)
  have HW3 := Lib.hid (HW2.out.keep hb)
  clear hb
  go_upto_region 4 with (first  | fail)
  refine wp_region_list ?_
  refine wpList_value (.bool false) rfl (by kernel_rfl) ?_
  refine wpList_load23 (f := x) rfl (by kernel_rfl) (by kernel_rfl) (HW3.out.1 (W1.heap.size, x) (by simp)) ?_
  refine wpList_zero23 rfl (by kernel_rfl) ?_
  refine wpList_neq23 (f := x) (g := zf) rfl (by kernel_rfl) (by kernel_rfl) (by kernel_rfl) (EQ _) ?_
  simp only [Act.put, List.setIfInBounds_toArray, List.set_cons_zero, List.set_cons_succ, List.getElem_toArray, List.getElem_cons_succ, List.getElem_cons_zero, Bool.not_true, Bool.not_false]
  go_wp2_with (first | (go_at_call 18; refine (wakes_any _ HW3.out.2.1).mono ?_) | fail)
  first | (rintro e W4 rfl hb) | (rintro e W4 ⟨rfl, hb⟩)
  have HW4 := Lib.hid (HW3.out.keep hb)
  clear hb
  go_wp2_with fail
  go_ret
  exact ⟨rfl, HW4.out.2.2⟩
end Go.Proofs.YtaeehinlgmijgaaDoor
