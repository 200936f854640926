/- Package cpu: a vector's register; two CPUs that are the same. -/
import Derived.Test.YtkpnafgmjcnniaaDoorCs
import Derived.Test.YtkpnafgmjcnniaaDoorCv
import Derived.Deep.MidRow
namespace Go.Proofs.YtkpnafgmjcnniaaDoor
open Go.RowKit
set_option linter.unusedVariables false
set_option linter.unusedSimpArgs false
/-- A vector's bytes. -/
def vecAt (c : Array Value) (i : Nat) : List Value := (c.toList.drop (16 + 16 * i)).take 16
theorem vecAt_at {c : Array Value} (i j : Nat) (hj : j < 16) : (vecAt c i)[j]? = c[16 + 16 * i + j]? := by
  unfold vecAt
  rw [List.getElem?_take_of_lt hj, List.getElem?_drop, Array.getElem?_toList]
theorem vecAt_len {c : Array Value} (h : c.size = 278) (i : Nat) (hi : i < 16) : (vecAt c i).length = 16 := by unfold vecAt; simp [h]; omega
theorem info45 : (Tryd.prog.info? 45).map (·.size) = some 16 := by kernel_rfl
theorem vecAt_range {W : World} {b : Nat} {c : Array Value} (h : CB W b c) (hs : c.size = 278) (i : Nat) (hi : i < 16) : W.rangeAt b (16 + 16 * i) (vecAt c i) := fun j v hj => by
  rw [h.cell]
  have hj2 : j < 16 := by rw [← vecAt_len hs i hi]; exact (List.getElem?_eq_some_iff.1 hj).1
  rw [← vecAt_at i j hj2]; exact hj
theorem wpList_load45v {ops : Array Oper} {Q : Exit → Act → World → Prop} {o : Oper} {rest : List Oper} {a : Act} {W : World} {x : Operand} {b i k : Nat} {c : Array Value}
    (ho : o.op = .load 45 x) (hg : o.guard = none) (hx : a.eval x = .pointer (some ⟨b, k, none⟩)) (hk : k = 16 + 16 * i) (h : CB W b c) (hs : c.size = 278) (hi : i < 16)
    (hn : wpList Tryd.prog ops Q rest (a.put o.dst (.agg (vecAt c i).toArray)) W) : wpList Tryd.prog ops Q (o :: rest) a W := by
  subst hk
  refine wpList_plain hg fun K hK => ?_
  have e : (execOp a.eval o).run Tryd.prog W = .ok (.value (.agg (vecAt c i).toArray)) W := by
    unfold execOp
    rw [ho]
    simp only [hx, Instr.loadAt, Instr.sureAddr, Sem.run_bind, Sem.run_pure, Result.andThen, run_loadVar_mid W b (16 + 16 * i) 45 (vecAt c i) _ (vecAt_range h hs i hi) Tryd.underlying45 rfl (by rw [vecAt_len hs i hi]; exact info45)]
  unfold Oper.wp
  rw [e, Oper.upon_value]
  exact hK _ _ hn
theorem wpList_store45v {ops : Array Oper} {Q : Exit → Act → World → Prop} {o : Oper} {rest : List Oper} {a : Act} {W : World} {x y : Operand} {b : Nat} {u c : Array Value}
    (ho : o.op = .store 45 x y) (hg : o.guard = none) (hx : a.eval x = .pointer (some ⟨b, 0, none⟩)) (hy : a.eval y = .agg c) (h : W.heap[b]? = some (.cells u 45 (0, 0))) (hu : u.size = 16) (hs : c.size = 16) (h1 : c.all (·.oneCell') = true)
    (hn : wpList Tryd.prog ops Q rest (a.put o.dst undef) (W.setRow b c)) : wpList Tryd.prog ops Q (o :: rest) a W := by
  refine wpList_plain hg fun K hK => ?_
  have e : (execOp a.eval o).run Tryd.prog W = .ok .skip (W.setRow b c) := by
    unfold execOp
    rw [ho]
    simp only [hx, hy, Instr.storeAt, Instr.sureAddr, Sem.run_bind, Sem.run_pure, Result.andThen, run_storeVar_row _ _ 45 45 u c h (by rw [hs]; exact info45) (by rw [hu, hs]) h1]
  unfold Oper.wp
  rw [e, Oper.upon_skip]
  exact hK _ _ hn
theorem vecAt_one {c : Array Value} (h : CPUF c) (i : Nat) (hi : i < 16) : (vecAt c i).toArray.all (·.oneCell') = true := by
  rw [Array.all_eq_true]
  intro j hj
  have hj2 : j < 16 := by rw [← vecAt_len h.size i hi]; simpa using hj
  obtain ⟨n, e, _⟩ := h.vec (16 + 16 * i + j) (by omega) (by omega)
  rw [← vecAt_at i j hj2] at e
  obtain ⟨_, e⟩ := List.getElem?_eq_some_iff.1 e
  simp only [List.getElem_toArray]
  rw [e]; rfl
def z45 : Array Value := #[.int .u8 0, .int .u8 0, .int .u8 0, .int .u8 0, .int .u8 0, .int .u8 0, .int .u8 0, .int .u8 0, .int .u8 0, .int .u8 0, .int .u8 0, .int .u8 0, .int .u8 0, .int .u8 0, .int .u8 0, .int .u8 0]
/-- The CPU and the zero vector. -/
def VT (w : World) (c z : Array Value) (W : World) : Prop := CB W w.heap.size c ∧ W.heap[w.heap.size + 1]? = some (.cells z 45 (0, 0)) ∧ Below w.heap.size w W
theorem VT.new (w : World) (c z : Array Value) : VT w c z ((w.alloc (.cells c 50)).alloc (.cells z 45)) :=
  ⟨(CB.new w c).keep ((Below.refl _ _).alloc (Nat.le_refl _) _), by have := heap_alloc_last (w.alloc (.cells c 50)) (.cells z 45); simpa using this, ((Below.refl _ _).alloc (Nat.le_refl _) _).alloc (by simp) _⟩
set_option maxRecDepth 100000 in
theorem vec_any (c : Array Value) (hF : CPUF c) (r : Int) (i : Nat) (hi : r % 16 = i) (hi16 : i < 16) (w : World) :
    Calls Tryd.prog 33 #[.agg c, .int .i64 r] w fun e w' => e = .returned (.agg (vecAt c i).toArray) ∧ Below w.heap.size w w' := by
  have HF := Lib.hid hF
  have HB := Lib.hid ((Below.refl w.heap.size w).alloc (Nat.le_refl _) (.cells c 50))
  clear hF
  go_enter Tryd.func33, Tryd.ntmps33
  go_upto_region 1 with fail
  have HW : Hid (VT w c z45 ((w.alloc (.cells c 50)).alloc (.cells z45 45))) := Lib.hid (VT.new w c z45)
  unfold z45 at HW
  generalize World.alloc (World.alloc _ _) _ = W1 at *
  have hs := HF.out.size
  have hl : (vecAt c i).toArray.size = 16 := by simpa using vecAt_len hs i hi16
  have h1 := vecAt_one HF.out i hi16
  have HL := Lib.hid (And.intro hl h1)
  clear hl h1
  go_upto_region 2 with (first | (go_at_call 55; refine (rest_any r i hi _).mono ?_; rintro e w' ⟨rfl, rfl⟩) | (refine wpList_load45v (i := i) rfl rfl rfl (by omega) HW.out.1 HF.out.size hi16 ?_; generalize hV : (vecAt c i).toArray = V at *; have HVe := Lib.hid hV; clear hV) | (refine wpList_store45v rfl rfl rfl rfl HW.out.2.1 rfl HL.out.1 HL.out.2 ?_))
  have HX := Lib.hid (setRow_heap _ _ _ V _ _ HW.out.2.1)
  have HBB := Lib.hid (below_row (vs := V) HW.out.2.2 (show w.heap.size ≤ w.heap.size + 1 by omega))
  generalize World.setRow _ _ _ = W3 at *
  go_wp2
  exact bodyPost_ret (v := .agg V) (results_cell_row rfl _ _ _ 45 _ (0, 0) _ rfl HX.out Tryd.underlying45 rfl (by rw [HL.out.1]; exact info45)) rfl ⟨congrArg (fun a => Ending.returned (.agg a)) HVe.out.symm, HBB.out⟩
set_option maxRecDepth 100000 in
theorem rvec_any (c : Array Value) (hF : CPUF c) (r : Int) (i : Nat) (hi : r % 16 = i) (hi16 : i < 16) (w : World) :
    Calls Tryd.prog 34 #[.agg c, .int .i64 r] w fun e w' => e = .returned (.agg (vecAt c i).toArray) ∧ Below w.heap.size w w' := by
  have HF := Lib.hid hF
  have HB := Lib.hid ((Below.refl w.heap.size w).alloc (Nat.le_refl _) (.cells c 50))
  clear hF
  go_enter Tryd.func34, Tryd.ntmps34
  go_upto_region 1 with fail
  have HW : Hid (VT w c z45 ((w.alloc (.cells c 50)).alloc (.cells z45 45))) := Lib.hid (VT.new w c z45)
  unfold z45 at HW
  generalize World.alloc (World.alloc _ _) _ = W1 at *
  have hs := HF.out.size
  have hl : (vecAt c i).toArray.size = 16 := by simpa using vecAt_len hs i hi16
  have h1 := vecAt_one HF.out i hi16
  have HL := Lib.hid (And.intro hl h1)
  clear hl h1
  go_upto_region 2 with (first | (go_at_call 56; refine (place_any r i hi _).mono ?_; rintro e w' ⟨rfl, rfl⟩) | (refine wpList_load45v (i := i) rfl rfl rfl (by omega) HW.out.1 HF.out.size hi16 ?_; generalize hV : (vecAt c i).toArray = V at *; have HVe := Lib.hid hV; clear hV) | (refine wpList_store45v rfl rfl rfl rfl HW.out.2.1 rfl HL.out.1 HL.out.2 ?_))
  have HX := Lib.hid (setRow_heap _ _ _ V _ _ HW.out.2.1)
  have HBB := Lib.hid (below_row (vs := V) HW.out.2.2 (show w.heap.size ≤ w.heap.size + 1 by omega))
  generalize World.setRow _ _ _ = W3 at *
  go_wp2
  exact bodyPost_ret (v := .agg V) (results_cell_row rfl _ _ _ 45 _ (0, 0) _ rfl HX.out Tryd.underlying45 rfl (by rw [HL.out.1]; exact info45)) rfl ⟨congrArg (fun a => Ending.returned (.agg a)) HVe.out.symm, HBB.out⟩
theorem eq45 {c : Array Value} (h : CPUF c) (i : Nat) (hi : i < 16) (w : World) : (Op.equalIn 10000 45 (.agg (vecAt c i).toArray) (.agg (vecAt c i).toArray)).run Tryd.prog w = .ok true w := by
  obtain ⟨l, hl⟩ : ∃ l, Tryd.prog.keyLits 2 45 (vecAt c i) = some l := by
    refine lits_row Tryd.underlying45 (by rw [c45, vecAt_len h.size i hi]) (fun j hj => ?_)
    rw [cU8, Nat.mul_one]
    obtain ⟨n, e, h0, h1⟩ := h.vec (16 + 16 * i + j) (by omega) (by omega)
    rw [← vecAt_at i j hj] at e
    rw [one_of e]
    refine ⟨[.int .u8 n], ?_⟩
    unfold Program.keyLits
    rw [Tryd.underlying5]
    have hw : (Lit.int .u8 n).wf = true := by
      unfold Lit.wf
      simp [IntKind.has, IntKind.min, IntKind.max, IntKind.bits, IntKind.signed]
      omega
    simp [hw]
  have hf : (Value.agg (vecAt c i).toArray).formed Tryd.prog 45 = true := by simp [Value.formed, Tryd.underlying45, c45, vecAt_len h.size i hi]
  have hl' : Tryd.prog.keyLits 2 45 (Value.agg (vecAt c i).toArray).cells.toList = some l := by simpa [Value.cells] using hl
  obtain ⟨r, hr, h2⟩ := run_equalIn_deep (P := Tryd.prog) 9998 2 45 (by kernel_rfl) w 2 2 (.agg (vecAt c i).toArray) (.agg (vecAt c i).toArray) l l hf hf hl' hl'
  rw [hr, h2.2 rfl]
end Go.Proofs.YtkpnafgmjcnniaaDoor
