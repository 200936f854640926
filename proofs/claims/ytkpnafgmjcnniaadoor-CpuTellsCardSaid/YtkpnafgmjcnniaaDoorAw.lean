/- What the document says of package cpu. -/
import Derived.Test.YtkpnafgmjcnniaaDoorAe
import Derived.Test.YtkpnafgmjcnniaaDoorRr
namespace Go.Proofs.YtkpnafgmjcnniaaDoor
open Go.RowKit
set_option linter.unusedVariables false
set_option linter.unusedSimpArgs false
theorem zc_one : Tryd.zeroCells50.all (·.oneCell') = true := by kernel_rfl
theorem zr0 : Tryd.zeroCells50[0]? = some (.int .u64 0) := by kernel_rfl
theorem zr1 : Tryd.zeroCells50[1]? = some (.int .u64 0) := by kernel_rfl
theorem zr2 : Tryd.zeroCells50[2]? = some (.int .u64 0) := by kernel_rfl
theorem zr3 : Tryd.zeroCells50[3]? = some (.int .u64 0) := by kernel_rfl
theorem zr4 : Tryd.zeroCells50[4]? = some (.int .u64 0) := by kernel_rfl
theorem zr5 : Tryd.zeroCells50[5]? = some (.int .u64 0) := by kernel_rfl
theorem zr6 : Tryd.zeroCells50[6]? = some (.int .u64 0) := by kernel_rfl
theorem zr7 : Tryd.zeroCells50[7]? = some (.int .u64 0) := by kernel_rfl
theorem zr8 : Tryd.zeroCells50[8]? = some (.int .u64 0) := by kernel_rfl
theorem zr9 : Tryd.zeroCells50[9]? = some (.int .u64 0) := by kernel_rfl
theorem zr10 : Tryd.zeroCells50[10]? = some (.int .u64 0) := by kernel_rfl
theorem zr11 : Tryd.zeroCells50[11]? = some (.int .u64 0) := by kernel_rfl
theorem zr12 : Tryd.zeroCells50[12]? = some (.int .u64 0) := by kernel_rfl
theorem zr13 : Tryd.zeroCells50[13]? = some (.int .u64 0) := by kernel_rfl
theorem zr14 : Tryd.zeroCells50[14]? = some (.int .u64 0) := by kernel_rfl
theorem zr15 : Tryd.zeroCells50[15]? = some (.int .u64 0) := by kernel_rfl
theorem zc_reg (i : Nat) (h : i < 16) : Tryd.zeroCells50[i]? = some (.int .u64 0) := by
  match i, h with
  | 0, _ => exact zr0
  | 1, _ => exact zr1
  | 2, _ => exact zr2
  | 3, _ => exact zr3
  | 4, _ => exact zr4
  | 5, _ => exact zr5
  | 6, _ => exact zr6
  | 7, _ => exact zr7
  | 8, _ => exact zr8
  | 9, _ => exact zr9
  | 10, _ => exact zr10
  | 11, _ => exact zr11
  | 12, _ => exact zr12
  | 13, _ => exact zr13
  | 14, _ => exact zr14
  | 15, _ => exact zr15
  | k + 16, h => exact absurd h (by omega)
theorem zcpu : CPU Tryd.zeroCells50 (fun _ => 0) := ⟨zc50, zc_one, fun i hi => zc_reg i hi, fun _ => by decide⟩
def wrA (j : Nat) : Nat := if j = 3 then 1099511627853 else 0
/-- The CPU in its block. -/
def WC (w : World) (c : Array Value) (W : World) : Prop := CB W w.heap.size c ∧ Below w.heap.size w W
theorem WC.keep {w W W' : World} {c : Array Value} (h : WC w c W) (hb : Below W.heap.size W W') : WC w c W' := ⟨h.1.keep hb, h.2.trans (hb.mono h.2.size)⟩
theorem row_below (W : World) (z c : Array Value) : Below W.heap.size W ((W.alloc (.cells z 50)).setRow W.heap.size c) := below_row ((Below.refl _ _).alloc (Nat.le_refl _) _) (Nat.le_refl _)
/-- The same, and two more behind it. -/
def WD (w : World) (c d : Array Value) (b : Nat) (W : World) : Prop := WC w c W ∧ CB W b d
theorem WD.keep {w W W' : World} {c d : Array Value} {b : Nat} (h : WD w c d b W) (hb : Below W.heap.size W W') : WD w c d b W' := ⟨h.1.keep hb, h.2.keep hb⟩
def WE (w : World) (c d e : Array Value) (b b' : Nat) (W : World) : Prop := WD w c d b W ∧ CB W b' e
theorem WE.keep {w W W' : World} {c d e : Array Value} {b b' : Nat} (h : WE w c d e b b' W) (hb : Below W.heap.size W W') : WE w c d e b b' W' := ⟨h.1.keep hb, h.2.keep hb⟩
theorem WE.drew {w W : World} {c d e : Array Value} {b b' : Nat} (h : WE w c d e b b' W) : WE w c d e b b' W.drew := h.keep ((Below.refl _ _).drew)
theorem exec_load50 {o : Oper} {ρ : Operand → Value} {W : World} {x : Operand} {b : Nat} {c : Array Value} (ho : o.op = .load 50 x) (hx : ρ x = .pointer (some ⟨b, 0, none⟩)) (h : CB W b c) (hs : c.size = 278) :
    (execOp ρ o).run Tryd.prog W = .ok (.value (.agg c)) W := by
  unfold execOp
  rw [ho]
  simp only [hx, Instr.loadAt, Instr.sureAddr, Sem.run_bind, Sem.run_pure, Result.andThen, load50_run h hs]
theorem wpList_load50w {ops : Array Oper} {Q : Exit → Act → World → Prop} {o : Oper} {rest : List Oper} {a : Act} {W : World} {x : Operand} {b : Nat} {c : Array Value}
    (ho : o.op = .load 50 x) (hw : Region.wanted o (yielded ops a.tmps) = true) (hx : a.eval x = .pointer (some ⟨b, 0, none⟩)) (h : CB W b c) (hs : c.size = 278)
    (hn : wpList Tryd.prog ops Q rest (a.put o.dst (.agg c)) W) : wpList Tryd.prog ops Q (o :: rest) a W := by
  refine wpList_step fun K hK => ?_
  rw [if_pos hw]
  have e := exec_load50 (ρ := a.eval) ho hx h hs
  unfold Oper.wp
  rw [e, Oper.upon_value]
  exact hK _ _ hn
theorem setA (c : Array Value) (hc : CPU c wrA) (W : World) : Calls Tryd.prog 31 #[.agg c, .int .i64 3, .int .i64 4, .int .u64 34359738373] W fun e w' => e = .returned (.agg (c.setIfInBounds 3 (.int .u64 5))) ∧ Below W.heap.size W w' := by
  have h := set_any c wrA hc 3 4 34359738373 (by decide) W
  have e : stN (wrA ((3 : Int) % 16).toNat) 34359738373 4 = 5 := by decide +kernel
  rw [e] at h
  exact h
theorem setB (c : Array Value) (hc : CPU c wrA) (W : World) : Calls Tryd.prog 31 #[.agg c, .int .i64 3, .int .i64 1, .int .u64 511] W fun e w' => e = .returned (.agg (c.setIfInBounds 3 (.int .u64 1099511628031))) ∧ Below W.heap.size W w' := by
  have h := set_any c wrA hc 3 1 511 (by decide) W
  have e : stN (wrA ((3 : Int) % 16).toNat) 511 1 = 1099511628031 := by decide +kernel
  rw [e] at h
  exact h
theorem getA (c : Array Value) (hc : CPU c wrA) (W : World) : Calls Tryd.prog 29 #[.agg c, .int .i64 3, .int .i64 1] W fun e w' => e = .returned (.int .u64 77) ∧ Below W.heap.size W w' := by
  have h := get_any c wrA hc 3 1 W
  have e : gtN (wrA ((3 : Int) % 16).toNat) 1 = 77 := by decide +kernel
  rw [e] at h
  exact h
theorem addrA (c : Array Value) (hc : CPU c wrA) (W : World) (hm : Mk W) : Calls Tryd.prog 27 #[.agg c, ov 2 0 3 (-1) 1 (-7) false 0, .int .u64 0] W fun e w' => e = .returned (.tuple #[.int .u64 1099511627846, .int .i64 0]) ∧ Below W.heap.size W w' := by
  have hr : rB 2 0 ((3 : Nat) : Int) (-1) 1 (-7) false 0 = true := by decide +kernel
  have h := addr_any 0 1 (-7) 0 0 3 c wrA hc W hm hr
  have e : sumA [wrA (3 % 16), uN (-7)] = 1099511627846 := by decide +kernel
  rw [e] at h
  exact h
theorem memA (W : World) : Calls Tryd.prog 26 #[.int .i64 3, .int .i64 (-7)] W fun e w' => e = .returned (ov 2 0 3 (-1) 1 (-7) false 0) ∧ Below W.heap.size W w' := by
  have h := rmem_any 3 (-7) W
  have e : mxI 3 = 3 := by decide
  rw [e] at h
  exact h
theorem addrB (c : Array Value) (W : World) : Calls Tryd.prog 27 #[.agg c, ov 1 3 (-1) (-1) 0 0 false 0, .int .u64 0] W fun e w' => e = .returned (.tuple #[.int .u64 0, .int .i64 2]) ∧ Below W.heap.size W w' :=
  addr_no 1 3 (-1) (-1) 0 0 false 0 0 c (by decide) W
theorem condA (W : World) : Calls Tryd.prog 35 #[.agg #[.bool false, .bool false, .bool true, .bool false, .bool false], .int .u8 12] W fun e w' => e = .returned (.bool true) ∧ Below W.heap.size W w' :=
  cond_any false false true false false 12 (by decide) W
theorem condB (W : World) : Calls Tryd.prog 35 #[.agg #[.bool false, .bool true, .bool false, .bool false, .bool false], .int .u8 5] W fun e w' => e = .returned (.bool false) ∧ Below W.heap.size W w' :=
  cond_any false true false false false 5 (by decide) W
theorem packA (W : World) : Calls Tryd.prog 37 #[.agg #[.bool true, .bool false, .bool false, .bool true, .bool false]] W fun e w' => e = .returned (.int .u8 9) ∧ Below W.heap.size W w' := by
  have h := callsIn_wide.1 (packed_in Fence.wide (Lib.hid rfl) 3 (Nat.le_refl _) true false false true false W)
  have e : sumI true false false true false seqE = 9 := by decide +kernel
  rw [e] at h
  exact h
set_option maxRecDepth 100000 in
set_option maxHeartbeats 2000000 in
theorem cwakes_any (w : World) (hm : Mk w) : Calls Tryd.prog 41 #[] w fun e w' => e = .returned (.bool true) ∧ Below w.heap.size w w' := by
  have HM := Lib.hid hm
  have hc3 := ((CB.new w Tryd.zeroCells50).cell 3).trans zr3
  have hf3 := (CB.new w Tryd.zeroCells50).froz 3
  have HW : Hid (WC w (Tryd.zeroCells50.setIfInBounds 3 (.int .u64 1099511627853)) (w.alloc (.cells (Tryd.zeroCells50.setIfInBounds 3 (.int .u64 1099511627853)) 50))) := Lib.hid ⟨CB.new w _, (Below.refl _ _).alloc (Nat.le_refl _) _⟩
  have HC : Hid (CPU (Tryd.zeroCells50.setIfInBounds 3 (.int .u64 1099511627853)) wrA) := Lib.hid (zcpu.set 3 1099511627853 (by decide) (by decide))
  clear hm
  go_enter Tryd.func41, Tryd.ntmps41
  go_upto_region 3 with fail
  generalize Tryd.zeroCells50.setIfInBounds 3 (.int .u64 1099511627853) = cA at *
  generalize w.alloc (.cells cA 50) = W1 at *
  clear hc3 hf3
  refine wp_region_list ?_
  refine wpList_load50 rfl rfl rfl HW.out.1 HC.out.size ?_
  go_wp2_with fail
  go_at_call 31
  (with_reducible refine (setA cA HC.out W1).mono ?_)
  rintro e w2 ⟨rfl, hb2⟩
  have HD : Hid (CPU (cA.setIfInBounds 3 (.int .u64 5)) (fun j => if j = 3 then 5 else wrA j)) := Lib.hid (HC.out.set 3 5 (by decide) (by decide))
  have HW2 := Lib.hid (HW.out.keep hb2)
  clear hb2 HW
  generalize cA.setIfInBounds 3 (.int .u64 5) = cD at *
  go_upto_region 4 with (first | (refine wpList_store50 rfl rfl rfl rfl (CB.new _ _) zc50 HD.out.size HD.out.one ?_) | fail)
  have HW3 : Hid (WD w cA cD w2.heap.size ((w2.alloc (.cells Tryd.zeroCells50 50)).setRow w2.heap.size cD)) := Lib.hid ⟨HW2.out.keep (row_below _ _ _), (CB.new _ _).row⟩
  clear HW2
  generalize World.setRow _ _ _ = W3 at *
  generalize w2.heap.size = b2 at *
  refine wp_region_list ?_
  refine wpList_load50 rfl rfl rfl HW3.out.1.1 HC.out.size ?_
  go_wp2_with fail
  go_at_call 31
  (with_reducible refine (setB cA HC.out W3).mono ?_)
  rintro e w4 ⟨rfl, hb4⟩
  have HE : Hid (CPU (cA.setIfInBounds 3 (.int .u64 1099511628031)) (fun j => if j = 3 then 1099511628031 else wrA j)) := Lib.hid (HC.out.set 3 1099511628031 (by decide) (by decide))
  have HW4 := Lib.hid (HW3.out.keep hb4)
  clear hb4 HW3
  generalize cA.setIfInBounds 3 (.int .u64 1099511628031) = cE at *
  go_upto_region 5 with (first | (refine wpList_store50 rfl rfl rfl rfl (CB.new _ _) zc50 HE.out.size HE.out.one ?_) | fail)
  have HW5 : Hid (WE w cA cD cE b2 w4.heap.size ((w4.alloc (.cells Tryd.zeroCells50 50)).setRow w4.heap.size cE)) := Lib.hid ⟨HW4.out.keep (row_below _ _ _), (CB.new _ _).row⟩
  clear HW4
  generalize World.setRow _ _ _ = W5 at *
  generalize w4.heap.size = b4 at *
  refine wp_region_noPanic ?_
  refine wp_region_held_drew (S := fun W => WE w cA cD cE b2 b4 W) (by kernel_rfl) ?_ (fun hHeld => ?_)
  · exact HW5.out.drew
  generalize World.drew _ = v0 at hHeld ⊢
  clear HW5
  refine wpAnyH_take (i := 0) (v := ?_) rfl (by kernel_rfl) (by kernel_rfl) (by kernel_rfl) (fun _ _ _ h => h) (Or.inl ⟨by kernel_rfl, ?_⟩) (by assumption) ?_
  rotate_left
  · intro w hSw
    refine exec_load50 (x := .tmp 1) ?_ ?_ hSw.1.1.1 HC.out.size
    · rfl
    · rfl
    try with_reducible rfl
  simp only [Act.put, List.setIfInBounds_toArray, List.set_cons_zero, List.set_cons_succ, List.getElem_toArray, List.getElem_cons_succ, List.getElem_cons_zero]
  refine wpAnyH_ready (rs := [1]) (by kernel_rfl) (by simp) ?_
  refine AllReadyH.cons rfl (fun K hK => ?_) AllReadyH.nil
  go_simp
  go_at_call 26
  have hz : Mk _ := HM.out.below (show Below w.heap.size w _ from hHeld.1.1.2)
  (with_reducible refine (memA _).mono ?_)
  clear hz
  rintro e w9 ⟨rfl, hb9⟩
  refine hK.out _ _ (hHeld.keep hb9) (fun hHeld2 => ?_)
  clear hK K hHeld hb9
  have hHeld := hHeld2
  clear hHeld2
  try simp only [Act.put, List.setIfInBounds_toArray, List.set_cons_zero, List.set_cons_succ, List.getElem_toArray, List.getElem_cons_succ, List.getElem_cons_zero]
  refine wpAnyH_ready (rs := [2]) (by kernel_rfl) (by simp) ?_
  refine AllReadyH.cons rfl (fun K hK => ?_) AllReadyH.nil
  go_simp
  go_at_call 27
  have hz : Mk _ := HM.out.below (show Below w.heap.size w _ from hHeld.1.1.2)
  (with_reducible refine (addrA cA HC.out _ hz).mono ?_)
  clear hz
  rintro e w9 ⟨rfl, hb9⟩
  refine hK.out _ _ (hHeld.keep hb9) (fun hHeld2 => ?_)
  clear hK K hHeld hb9
  have hHeld := hHeld2
  clear hHeld2
  try simp only [Act.put, List.setIfInBounds_toArray, List.set_cons_zero, List.set_cons_succ, List.getElem_toArray, List.getElem_cons_succ, List.getElem_cons_zero]
  refine wpAnyH_take (i := 3) (v := ?_) rfl (by kernel_rfl) (by kernel_rfl) (by kernel_rfl) (fun _ _ _ h => h) (Or.inl ⟨by kernel_rfl, ?_⟩) (by assumption) ?_
  rotate_left
  · intro w hSw
    go_simp
    try with_reducible rfl
  simp only [Act.put, List.setIfInBounds_toArray, List.set_cons_zero, List.set_cons_succ, List.getElem_toArray, List.getElem_cons_succ, List.getElem_cons_zero]
  refine wpAnyH_take (i := 4) (v := ?_) rfl (by kernel_rfl) (by kernel_rfl) (by kernel_rfl) (fun _ _ _ h => h) (Or.inl ⟨by kernel_rfl, ?_⟩) (by assumption) ?_
  rotate_left
  · intro w hSw
    go_simp
    try with_reducible rfl
  simp only [Act.put, List.setIfInBounds_toArray, List.set_cons_zero, List.set_cons_succ, List.getElem_toArray, List.getElem_cons_succ, List.getElem_cons_zero]
  refine wpAnyH_take (i := 5) (v := ?_) rfl (by kernel_rfl) (by kernel_rfl) (by kernel_rfl) (fun _ _ _ h => h) (Or.inl ⟨by kernel_rfl, ?_⟩) (by assumption) ?_
  rotate_left
  · intro w hSw
    go_simp
    try with_reducible rfl
  simp only [Act.put, List.setIfInBounds_toArray, List.set_cons_zero, List.set_cons_succ, List.getElem_toArray, List.getElem_cons_succ, List.getElem_cons_zero]
  refine wpAnyH_take (i := 6) (v := ?_) rfl (by kernel_rfl) (by kernel_rfl) (by kernel_rfl) (fun _ _ _ h => h) (Or.inl ⟨by kernel_rfl, ?_⟩) (by assumption) ?_
  rotate_left
  · intro w hSw
    go_simp
    try with_reducible rfl
  simp only [Act.put, List.setIfInBounds_toArray, List.set_cons_zero, List.set_cons_succ, List.getElem_toArray, List.getElem_cons_succ, List.getElem_cons_zero]
  refine wpAnyH_take (i := 7) (v := ?_) rfl (by kernel_rfl) (by kernel_rfl) (by kernel_rfl) (fun _ _ _ h => h) (Or.inl ⟨by kernel_rfl, ?_⟩) (by assumption) ?_
  rotate_left
  · intro w hSw
    go_simp
    try with_reducible rfl
  simp only [Act.put, List.setIfInBounds_toArray, List.set_cons_zero, List.set_cons_succ, List.getElem_toArray, List.getElem_cons_succ, List.getElem_cons_zero]
  refine wpAnyH_done (by kernel_rfl) ?_ _
  refine NoPanic.normal ?_
  go_upto_region 6 with fail
  have HW6 := Lib.hid hHeld
  clear hHeld
  refine wp_region_noPanic ?_
  refine wp_region_held_drew (S := fun W => WE w cA cD cE b2 b4 W) (by kernel_rfl) ?_ (fun hHeld => ?_)
  · exact HW6.out.drew
  generalize World.drew _ = v0 at hHeld ⊢
  clear HW6
  refine wpAnyH_take (i := 0) (v := ?_) rfl (by kernel_rfl) (by kernel_rfl) (by kernel_rfl) (fun _ _ _ h => h) (Or.inl ⟨by kernel_rfl, ?_⟩) (by assumption) ?_
  rotate_left
  · intro w hSw
    refine exec_load50 (x := .tmp 1) ?_ ?_ hSw.1.1.1 HC.out.size
    · rfl
    · rfl
    try with_reducible rfl
  simp only [Act.put, List.setIfInBounds_toArray, List.set_cons_zero, List.set_cons_succ, List.getElem_toArray, List.getElem_cons_succ, List.getElem_cons_zero]
  refine wpAnyH_ready (rs := [1]) (by kernel_rfl) (by simp) ?_
  refine AllReadyH.cons rfl (fun K hK => ?_) AllReadyH.nil
  go_simp
  go_at_call 24
  have hz : Mk _ := HM.out.below (show Below w.heap.size w _ from hHeld.1.1.2)
  (with_reducible refine (rreg_any _ _).mono ?_)
  clear hz
  rintro e w9 ⟨rfl, hb9⟩
  refine hK.out _ _ (hHeld.keep hb9) (fun hHeld2 => ?_)
  clear hK K hHeld hb9
  have hHeld := hHeld2
  clear hHeld2
  try simp only [Act.put, List.setIfInBounds_toArray, List.set_cons_zero, List.set_cons_succ, List.getElem_toArray, List.getElem_cons_succ, List.getElem_cons_zero]
  refine wpAnyH_ready (rs := [2]) (by kernel_rfl) (by simp) ?_
  refine AllReadyH.cons rfl (fun K hK => ?_) AllReadyH.nil
  go_simp
  go_at_call 27
  have hz : Mk _ := HM.out.below (show Below w.heap.size w _ from hHeld.1.1.2)
  (with_reducible refine (addrB cA _).mono ?_)
  clear hz
  rintro e w9 ⟨rfl, hb9⟩
  refine hK.out _ _ (hHeld.keep hb9) (fun hHeld2 => ?_)
  clear hK K hHeld hb9
  have hHeld := hHeld2
  clear hHeld2
  try simp only [Act.put, List.setIfInBounds_toArray, List.set_cons_zero, List.set_cons_succ, List.getElem_toArray, List.getElem_cons_succ, List.getElem_cons_zero]
  refine wpAnyH_take (i := 3) (v := ?_) rfl (by kernel_rfl) (by kernel_rfl) (by kernel_rfl) (fun _ _ _ h => h) (Or.inl ⟨by kernel_rfl, ?_⟩) (by assumption) ?_
  rotate_left
  · intro w hSw
    go_simp
    try with_reducible rfl
  simp only [Act.put, List.setIfInBounds_toArray, List.set_cons_zero, List.set_cons_succ, List.getElem_toArray, List.getElem_cons_succ, List.getElem_cons_zero]
  refine wpAnyH_take (i := 4) (v := ?_) rfl (by kernel_rfl) (by kernel_rfl) (by kernel_rfl) (fun _ _ _ h => h) (Or.inl ⟨by kernel_rfl, ?_⟩) (by assumption) ?_
  rotate_left
  · intro w hSw
    go_simp
    try with_reducible rfl
  simp only [Act.put, List.setIfInBounds_toArray, List.set_cons_zero, List.set_cons_succ, List.getElem_toArray, List.getElem_cons_succ, List.getElem_cons_zero]
  refine wpAnyH_take (i := 5) (v := ?_) rfl (by kernel_rfl) (by kernel_rfl) (by kernel_rfl) (fun _ _ _ h => h) (Or.inl ⟨by kernel_rfl, ?_⟩) (by assumption) ?_
  rotate_left
  · intro w hSw
    go_simp
    try with_reducible rfl
  simp only [Act.put, List.setIfInBounds_toArray, List.set_cons_zero, List.set_cons_succ, List.getElem_toArray, List.getElem_cons_succ, List.getElem_cons_zero]
  refine wpAnyH_take (i := 6) (v := ?_) rfl (by kernel_rfl) (by kernel_rfl) (by kernel_rfl) (fun _ _ _ h => h) (Or.inl ⟨by kernel_rfl, ?_⟩) (by assumption) ?_
  rotate_left
  · intro w hSw
    go_simp
    try with_reducible rfl
  simp only [Act.put, List.setIfInBounds_toArray, List.set_cons_zero, List.set_cons_succ, List.getElem_toArray, List.getElem_cons_succ, List.getElem_cons_zero]
  refine wpAnyH_take (i := 7) (v := ?_) rfl (by kernel_rfl) (by kernel_rfl) (by kernel_rfl) (fun _ _ _ h => h) (Or.inl ⟨by kernel_rfl, ?_⟩) (by assumption) ?_
  rotate_left
  · intro w hSw
    go_simp
    try with_reducible rfl
  simp only [Act.put, List.setIfInBounds_toArray, List.set_cons_zero, List.set_cons_succ, List.getElem_toArray, List.getElem_cons_succ, List.getElem_cons_zero]
  refine wpAnyH_done (by kernel_rfl) ?_ _
  refine NoPanic.normal ?_
  go_upto_region 7 with fail
  have HW7 := Lib.hid hHeld
  clear hHeld
  have cd := (HW7.out.1.2.cell 3).trans (HD.out.reg 3 (by decide))
  have ce := (HW7.out.2.cell 3).trans (HE.out.reg 3 (by decide))
  have cd' : _ = some (Value.int .u64 5) := cd
  have ce' : _ = some (Value.int .u64 1099511628031) := ce
  clear cd ce
  have HB := Lib.hid HW7.out.1.1.2
  go_wp2_with (first | (refine wpList_load50w rfl ?_ rfl HW7.out.1.1.1 HC.out.size ?_) | (go_at_call 29; (with_reducible refine (getA cA HC.out _).mono ?_); rintro e w8 ⟨rfl, hb8⟩) | fail)
  have hB8 := Lib.hid (HB.out.trans (hb8.mono HB.out.size))
  clear hb8 cd' ce'
  go_wp2_with (first | (go_at_call 35; (with_reducible refine (condA _).mono ?_); rintro e w9 ⟨rfl, hb9⟩) | fail)
  have hB9 := Lib.hid (hB8.out.trans (hb9.mono hB8.out.size))
  clear hb9
  go_wp2_with (first | (go_at_call 35; (with_reducible refine (condB _).mono ?_); rintro e w10 ⟨rfl, hb10⟩) | (go_at_call 37; (with_reducible refine (packA _).mono ?_); rintro e w11 ⟨rfl, hb11⟩) | fail)
  go_ret
  have hB10 := hB9.out.trans (hb10.mono hB9.out.size)
  exact ⟨rfl, hB10.trans (hb11.mono hB10.size)⟩
end Go.Proofs.YtkpnafgmjcnniaaDoor
