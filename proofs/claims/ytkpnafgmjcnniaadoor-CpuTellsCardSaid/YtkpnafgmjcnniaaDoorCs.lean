/- Package cpu: a register set. -/
import Derived.Test.YtkpnafgmjcnniaaDoorCb
import Derived.Test.YtkpnafgmjcnniaaDoorTk
namespace Go.Proofs.YtkpnafgmjcnniaaDoor
open Go.RowKit
set_option linter.unusedVariables false
set_option linter.unusedSimpArgs false
theorem info50 : (Tryd.prog.info? 50).map (·.size) = some 278 := by kernel_rfl
theorem load50_run {W : World} {b : Nat} {c : Array Value} (h : CB W b c) (hs : c.size = 278) : (loadVar 50 ⟨b, 0, none⟩).run Tryd.prog W = .ok (.agg c) W :=
  run_loadVar_row _ _ 50 50 c (0, 0) _ h Tryd.underlying50 rfl (by rw [hs]; exact info50)
theorem store50_run {W : World} {b : Nat} {c u : Array Value} (h : CB W b u) (hu : u.size = 278) (hs : c.size = 278) (ho : c.all (·.oneCell') = true) : (storeVar 50 ⟨b, 0, none⟩ (.agg c)).run Tryd.prog W = .ok () (W.setRow b c) :=
  run_storeVar_row _ _ 50 50 u c h (by rw [hs]; exact info50) (by rw [hu, hs]) ho
theorem wpList_load50 {ops : Array Oper} {Q : Exit → Act → World → Prop} {o : Oper} {rest : List Oper} {a : Act} {W : World} {x : Operand} {b : Nat} {c : Array Value}
    (ho : o.op = .load 50 x) (hg : o.guard = none) (hx : a.eval x = .pointer (some ⟨b, 0, none⟩)) (h : CB W b c) (hs : c.size = 278)
    (hn : wpList Tryd.prog ops Q rest (a.put o.dst (.agg c)) W) : wpList Tryd.prog ops Q (o :: rest) a W := by
  refine wpList_plain hg fun K hK => ?_
  have e : (execOp a.eval o).run Tryd.prog W = .ok (.value (.agg c)) W := by
    unfold execOp
    rw [ho]
    simp only [hx, Instr.loadAt, Instr.sureAddr, Sem.run_bind, Sem.run_pure, Result.andThen, load50_run h hs]
  unfold Oper.wp
  rw [e, Oper.upon_value]
  exact hK _ _ hn
theorem wpList_store50 {ops : Array Oper} {Q : Exit → Act → World → Prop} {o : Oper} {rest : List Oper} {a : Act} {W : World} {x y : Operand} {b : Nat} {u c : Array Value}
    (ho : o.op = .store 50 x y) (hg : o.guard = none) (hx : a.eval x = .pointer (some ⟨b, 0, none⟩)) (hy : a.eval y = .agg c) (h : CB W b u) (hu : u.size = 278) (hs : c.size = 278) (h1 : c.all (·.oneCell') = true)
    (hn : wpList Tryd.prog ops Q rest (a.put o.dst undef) (W.setRow b c)) : wpList Tryd.prog ops Q (o :: rest) a W := by
  refine wpList_plain hg fun K hK => ?_
  have e : (execOp a.eval o).run Tryd.prog W = .ok .skip (W.setRow b c) := by
    unfold execOp
    rw [ho]
    simp only [hx, hy, Instr.storeAt, Instr.sureAddr, Sem.run_bind, Sem.run_pure, Result.andThen, store50_run h hu hs h1]
  unfold Oper.wp
  rw [e, Oper.upon_skip]
  exact hK _ _ hn
theorem setRow_other {W : World} {b p : Nat} {vs : Array Value} (hn : b ≠ p) : (W.setRow p vs).heap[b]? = W.heap[b]? := by
  show (W.heap.modify p _)[b]? = _
  rw [Array.getElem?_modify]
  simp [hn.symm]
theorem below_row {w W : World} {n p : Nat} {vs : Array Value} (h : Below n w W) (hp : n ≤ p) : Below n w (W.setRow p vs) :=
  h.trans ⟨rfl, rfl, rfl, by simp [World.setRow], fun k hk => setRow_other (by omega)⟩
theorem CB.row {W : World} {b : Nat} {u c : Array Value} (h : CB W b u) : CB (W.setRow b c) b c := setRow_heap _ _ _ _ _ _ h
theorem CB.set {W : World} {b : Nat} {c : Array Value} (h : CB W b c) (i : Nat) (v : Value) : CB (W.setCell ⟨b, i, none⟩ v) b (c.setIfInBounds i v) := cset h
theorem CB.far {W : World} {b p i : Nat} {c : Array Value} {v : Value} (h : CB W b c) (hn : b ≠ p) : CB (W.setCell ⟨p, i, none⟩ v) b c := (hset hn).trans h
theorem CPU.set {c : Array Value} {R : Nat → Nat} (h : CPU c R) (i x : Nat) (hi : i < 16) (hx : x < 18446744073709551616) : CPU (c.setIfInBounds i (.int .u64 (x : Nat))) (fun j => if j = i then x else R j) where
  size := by simp [h.size]
  one := by
    have h1 := h.one
    rw [Array.all_eq_true] at h1 ⊢
    intro j hj
    rw [Array.getElem_setIfInBounds (by simpa using hj)]
    split
    · rfl
    · exact h1 j (by simpa using hj)
  reg := fun j hj => by
    by_cases hji : j = i
    · subst hji
      rw [if_pos rfl, Array.getElem?_setIfInBounds_self_of_lt (by rw [h.size]; omega)]
    · rw [if_neg hji, Array.getElem?_setIfInBounds_ne (by omega)]; exact h.reg j hj
  lt := fun j => by split; exact hx; exact h.lt j
/-- What lies there in the midst of Set: the CPU, the result's zero cells. -/
def ST (w : World) (c z : Array Value) (W : World) : Prop := CB W w.heap.size c ∧ CB W (w.heap.size + 1) z ∧ z.size = 278 ∧ Below w.heap.size w W
theorem ST.new (w : World) (c z : Array Value) (hz : z.size = 278) : ST w c z ((w.alloc (.cells c 50)).alloc (.cells z 50)) :=
  ⟨(CB.new w c).keep ((Below.refl _ _).alloc (Nat.le_refl _) _), by have := CB.new (w.alloc (.cells c 50)) z; simpa using this, hz, ((Below.refl _ _).alloc (Nat.le_refl _) _).alloc (by simp) _⟩
theorem ST.set {w W : World} {c z : Array Value} (h : ST w c z W) (i : Nat) (v : Value) : ST w (c.setIfInBounds i v) z (W.setCell ⟨w.heap.size, i, none⟩ v) :=
  ⟨h.1.set i v, h.2.1.far (by omega), h.2.2.1, h.2.2.2.setCell (p := ⟨w.heap.size, i, none⟩) (Nat.le_refl _) v⟩
theorem zc50 : Tryd.zeroCells50.size = 278 := by kernel_rfl
theorem and_high (a k : Nat) (ha : a < 18446744073709551616) (hk : k ≤ 64) : a &&& (2 ^ k * (2 ^ (64 - k) - 1)) = 2 ^ k * (a / 2 ^ k) := by
  apply Nat.eq_of_testBit_eq
  intro i
  rw [Nat.testBit_and, Nat.testBit_two_pow_mul, Nat.testBit_two_pow_mul, Nat.testBit_two_pow_sub_one, Nat.testBit_div_two_pow]
  by_cases h1 : k ≤ i
  · have e : i - k + k = i := by omega
    rw [e]
    by_cases h2 : i < 64
    · have : i - k < 64 - k := by omega
      simp [h1, this]
    · have hz : a.testBit i = false := Nat.testBit_lt_two_pow (Nat.lt_of_lt_of_le ha (by
        have : 2 ^ 64 ≤ 2 ^ i := Nat.pow_le_pow_right (by decide) (by omega)
        have e64 : (2 : Nat) ^ 64 = 18446744073709551616 := by decide
        omega))
      simp [hz]
  · simp [h1]
theorem part_val (a x : Nat) (ha : a < 18446744073709551616) (hx : x < 18446744073709551616) (k : Nat) (hk : k ≤ 64) (m : Nat) (hm : m = 2 ^ k - 1) (hM : 18446744073709551615 - m = 2 ^ k * (2 ^ (64 - k) - 1)) (hml : m < 18446744073709551616) :
    bits .or .u64 (bits .andNot .u64 (a : Int) (m : Int)) (bits .and .u64 (x : Int) (m : Int)) = ((2 ^ k * (a / 2 ^ k) + x % 2 ^ k : Nat) : Int) := by
  rw [u64_andNot_nat a m ha hml, hM, and_high a k ha hk, u64_and_nat x m hx hml, hm, Nat.and_two_pow_sub_one_eq_mod]
  have h1 : 2 ^ k * (a / 2 ^ k) ≤ a := Nat.mul_div_le a _
  have h2 : x % 2 ^ k ≤ x := Nat.mod_le _ _
  rw [u64_or_nat _ _ (by omega) (by omega), Nat.two_pow_add_eq_or_of_lt (Nat.mod_lt _ (Nat.two_pow_pos k))]
/-- A word of which the lowest bytes are set. -/
def stN (a x : Nat) (w : Int) : Nat := if w = 1 then 256 * (a / 256) + x % 256 else if w = 2 then 65536 * (a / 65536) + x % 65536 else if w = 4 then x % 4294967296 else x
theorem stN_lt (a x : Nat) (ha : a < 18446744073709551616) (hx : x < 18446744073709551616) (w : Int) : stN a x w < 18446744073709551616 := by
  unfold stN; (repeat' split) <;> omega
theorem st_1 (a x : Nat) (ha : a < 18446744073709551616) (hx : x < 18446744073709551616) : bits .or .u64 (bits .andNot .u64 (a : Int) 255) (bits .and .u64 (x : Int) 255) = ((256 * (a / 256) + x % 256 : Nat) : Int) :=
  part_val a x ha hx 8 (by omega) 255 rfl rfl (by decide)
theorem st_2 (a x : Nat) (ha : a < 18446744073709551616) (hx : x < 18446744073709551616) : bits .or .u64 (bits .andNot .u64 (a : Int) 65535) (bits .and .u64 (x : Int) 65535) = ((65536 * (a / 65536) + x % 65536 : Nat) : Int) :=
  part_val a x ha hx 16 (by omega) 65535 rfl rfl (by decide)
set_option maxRecDepth 100000 in
theorem set_1 (c : Array Value) (R : Nat → Nat) (h : CPU c R) (r wd : Int) (x i : Nat) (hx : x < 18446744073709551616) (hi : r % 16 = i) (hi16 : i < 16) (h1 : (wd == 1) = true) (w : World) :
    Calls Tryd.prog 31 #[.agg c, .int .i64 r, .int .i64 wd, .int .u64 x] w fun e w' => e = .returned (.agg (c.setIfInBounds i (.int .u64 (256 * (R i / 256) + x % 256 : Nat)))) ∧ Below w.heap.size w w' := by
  have HR := Lib.hid (h.reg i hi16)
  have HS := Lib.hid (ST.new w c Tryd.zeroCells50 zc50)
  have HV := Lib.hid (show bits .or .u64 (bits .andNot .u64 ((R i : Nat) : Int) 255) (bits .and .u64 (x : Int) 255) = ((256 * (R i / 256) + x % 256 : Nat) : Int) from st_1 (R i) x (h.lt i) hx)
  have HC := Lib.hid (h.set i (256 * (R i / 256) + x % 256) hi16 (by have := h.lt i; omega))
  go_enter Tryd.func31, Tryd.ntmps31
  go_upto_region 1 with fail
  generalize World.alloc (World.alloc _ _) _ = W1 at *
  have hc := (HS.out.1.cell i).trans HR.out
  have hf := HS.out.1.froz i
  go_upto_region 10 with (go_at_call 55; refine (rest_any r i hi _).mono ?_; rintro e w' ⟨rfl, rfl⟩)
  have HT := Lib.hid (HS.out.set i (.int .u64 (((256 * (R i / 256) + x % 256) : Nat) : Int)))
  try rw [← HV.out] at HT
  generalize World.setCell W1 _ _ = W2 at *
  try rw [HV.out] at HT
  clear HS hc hf
  generalize hC : c.setIfInBounds i (.int .u64 (((256 * (R i / 256) + x % 256) : Nat) : Int)) = C at *
  have HCe := Lib.hid hC
  clear hC
  refine wp_region_list ?_
  refine wpList_load50 rfl rfl rfl HT.out.1 HC.out.size ?_
  refine wpList_store50 rfl rfl rfl rfl HT.out.2.1 HT.out.2.2.1 HC.out.size HC.out.one ?_
  simp only [Act.put, List.setIfInBounds_toArray, List.set_cons_zero, List.set_cons_succ, List.getElem_toArray, List.getElem_cons_succ, List.getElem_cons_zero]
  refine wpList_nil ?_
  have HF := Lib.hid (HT.out.2.1.row (c := C))
  have HB := Lib.hid (below_row (vs := C) HT.out.2.2.2 (show w.heap.size ≤ w.heap.size + 1 by omega))
  generalize World.setRow _ _ _ = W3 at *
  go_wp2
  exact bodyPost_ret (v := .agg C) (results_cell_row rfl _ _ _ 50 _ (0, 0) _ rfl HF.out Tryd.underlying50 rfl (by rw [HC.out.size]; exact info50)) rfl ⟨congrArg (fun a => Ending.returned (.agg a)) HCe.out.symm, HB.out⟩
set_option maxRecDepth 100000 in
theorem set_2 (c : Array Value) (R : Nat → Nat) (h : CPU c R) (r wd : Int) (x i : Nat) (hx : x < 18446744073709551616) (hi : r % 16 = i) (hi16 : i < 16) (h1 : (wd == 1) = false) (h2 : (wd == 2) = true) (w : World) :
    Calls Tryd.prog 31 #[.agg c, .int .i64 r, .int .i64 wd, .int .u64 x] w fun e w' => e = .returned (.agg (c.setIfInBounds i (.int .u64 (65536 * (R i / 65536) + x % 65536 : Nat)))) ∧ Below w.heap.size w w' := by
  have HR := Lib.hid (h.reg i hi16)
  have HS := Lib.hid (ST.new w c Tryd.zeroCells50 zc50)
  have HV := Lib.hid (show bits .or .u64 (bits .andNot .u64 ((R i : Nat) : Int) 65535) (bits .and .u64 (x : Int) 65535) = ((65536 * (R i / 65536) + x % 65536 : Nat) : Int) from st_2 (R i) x (h.lt i) hx)
  have HC := Lib.hid (h.set i (65536 * (R i / 65536) + x % 65536) hi16 (by have := h.lt i; omega))
  go_enter Tryd.func31, Tryd.ntmps31
  go_upto_region 1 with fail
  generalize World.alloc (World.alloc _ _) _ = W1 at *
  have hc := (HS.out.1.cell i).trans HR.out
  have hf := HS.out.1.froz i
  go_upto_region 10 with (go_at_call 55; refine (rest_any r i hi _).mono ?_; rintro e w' ⟨rfl, rfl⟩)
  have HT := Lib.hid (HS.out.set i (.int .u64 (((65536 * (R i / 65536) + x % 65536) : Nat) : Int)))
  try rw [← HV.out] at HT
  generalize World.setCell W1 _ _ = W2 at *
  try rw [HV.out] at HT
  clear HS hc hf
  generalize hC : c.setIfInBounds i (.int .u64 (((65536 * (R i / 65536) + x % 65536) : Nat) : Int)) = C at *
  have HCe := Lib.hid hC
  clear hC
  refine wp_region_list ?_
  refine wpList_load50 rfl rfl rfl HT.out.1 HC.out.size ?_
  refine wpList_store50 rfl rfl rfl rfl HT.out.2.1 HT.out.2.2.1 HC.out.size HC.out.one ?_
  simp only [Act.put, List.setIfInBounds_toArray, List.set_cons_zero, List.set_cons_succ, List.getElem_toArray, List.getElem_cons_succ, List.getElem_cons_zero]
  refine wpList_nil ?_
  have HF := Lib.hid (HT.out.2.1.row (c := C))
  have HB := Lib.hid (below_row (vs := C) HT.out.2.2.2 (show w.heap.size ≤ w.heap.size + 1 by omega))
  generalize World.setRow _ _ _ = W3 at *
  go_wp2
  exact bodyPost_ret (v := .agg C) (results_cell_row rfl _ _ _ 50 _ (0, 0) _ rfl HF.out Tryd.underlying50 rfl (by rw [HC.out.size]; exact info50)) rfl ⟨congrArg (fun a => Ending.returned (.agg a)) HCe.out.symm, HB.out⟩
set_option maxRecDepth 100000 in
theorem set_4 (c : Array Value) (R : Nat → Nat) (h : CPU c R) (r wd : Int) (x i : Nat) (hx : x < 18446744073709551616) (hi : r % 16 = i) (hi16 : i < 16) (h1 : (wd == 1) = false) (h2 : (wd == 2) = false) (h4 : (wd == 4) = true) (w : World) :
    Calls Tryd.prog 31 #[.agg c, .int .i64 r, .int .i64 wd, .int .u64 x] w fun e w' => e = .returned (.agg (c.setIfInBounds i (.int .u64 (x % 4294967296 : Nat)))) ∧ Below w.heap.size w w' := by
  have HR := Lib.hid (h.reg i hi16)
  have HS := Lib.hid (ST.new w c Tryd.zeroCells50 zc50)
  have HV := Lib.hid (show bits .and .u64 (x : Int) 4294967295 = (((x % 4294967296 : Nat) : Int) : Int) from (and_low x hx).2.2)
  have HC := Lib.hid (h.set i (x % 4294967296) hi16 (by omega))
  go_enter Tryd.func31, Tryd.ntmps31
  go_upto_region 1 with fail
  generalize World.alloc (World.alloc _ _) _ = W1 at *
  have hc := (HS.out.1.cell i).trans HR.out
  have hf := HS.out.1.froz i
  go_upto_region 10 with (go_at_call 55; refine (rest_any r i hi _).mono ?_; rintro e w' ⟨rfl, rfl⟩)
  have HT := Lib.hid (HS.out.set i (.int .u64 (((x % 4294967296) : Nat) : Int)))
  try rw [← HV.out] at HT
  generalize World.setCell W1 _ _ = W2 at *
  try rw [HV.out] at HT
  clear HS hc hf
  generalize hC : c.setIfInBounds i (.int .u64 (((x % 4294967296) : Nat) : Int)) = C at *
  have HCe := Lib.hid hC
  clear hC
  refine wp_region_list ?_
  refine wpList_load50 rfl rfl rfl HT.out.1 HC.out.size ?_
  refine wpList_store50 rfl rfl rfl rfl HT.out.2.1 HT.out.2.2.1 HC.out.size HC.out.one ?_
  simp only [Act.put, List.setIfInBounds_toArray, List.set_cons_zero, List.set_cons_succ, List.getElem_toArray, List.getElem_cons_succ, List.getElem_cons_zero]
  refine wpList_nil ?_
  have HF := Lib.hid (HT.out.2.1.row (c := C))
  have HB := Lib.hid (below_row (vs := C) HT.out.2.2.2 (show w.heap.size ≤ w.heap.size + 1 by omega))
  generalize World.setRow _ _ _ = W3 at *
  go_wp2
  exact bodyPost_ret (v := .agg C) (results_cell_row rfl _ _ _ 50 _ (0, 0) _ rfl HF.out Tryd.underlying50 rfl (by rw [HC.out.size]; exact info50)) rfl ⟨congrArg (fun a => Ending.returned (.agg a)) HCe.out.symm, HB.out⟩
set_option maxRecDepth 100000 in
theorem set_8 (c : Array Value) (R : Nat → Nat) (h : CPU c R) (r wd : Int) (x i : Nat) (hx : x < 18446744073709551616) (hi : r % 16 = i) (hi16 : i < 16) (h1 : (wd == 1) = false) (h2 : (wd == 2) = false) (h4 : (wd == 4) = false) (w : World) :
    Calls Tryd.prog 31 #[.agg c, .int .i64 r, .int .i64 wd, .int .u64 x] w fun e w' => e = .returned (.agg (c.setIfInBounds i (.int .u64 (x : Nat)))) ∧ Below w.heap.size w w' := by
  have HR := Lib.hid (h.reg i hi16)
  have HS := Lib.hid (ST.new w c Tryd.zeroCells50 zc50)
  have HV := Lib.hid (show (x : Int) = ((x : Nat) : Int) from (rfl : (x : Int) = (x : Nat)))
  have HC := Lib.hid (h.set i x hi16 (hx))
  go_enter Tryd.func31, Tryd.ntmps31
  go_upto_region 1 with fail
  generalize World.alloc (World.alloc _ _) _ = W1 at *
  have hc := (HS.out.1.cell i).trans HR.out
  have hf := HS.out.1.froz i
  go_upto_region 10 with (go_at_call 55; refine (rest_any r i hi _).mono ?_; rintro e w' ⟨rfl, rfl⟩)
  have HT := Lib.hid (HS.out.set i (.int .u64 ((x : Nat) : Int)))
  try rw [← HV.out] at HT
  generalize World.setCell W1 _ _ = W2 at *
  try rw [HV.out] at HT
  clear HS hc hf
  generalize hC : c.setIfInBounds i (.int .u64 ((x : Nat) : Int)) = C at *
  have HCe := Lib.hid hC
  clear hC
  refine wp_region_list ?_
  refine wpList_load50 rfl rfl rfl HT.out.1 HC.out.size ?_
  refine wpList_store50 rfl rfl rfl rfl HT.out.2.1 HT.out.2.2.1 HC.out.size HC.out.one ?_
  simp only [Act.put, List.setIfInBounds_toArray, List.set_cons_zero, List.set_cons_succ, List.getElem_toArray, List.getElem_cons_succ, List.getElem_cons_zero]
  refine wpList_nil ?_
  have HF := Lib.hid (HT.out.2.1.row (c := C))
  have HB := Lib.hid (below_row (vs := C) HT.out.2.2.2 (show w.heap.size ≤ w.heap.size + 1 by omega))
  generalize World.setRow _ _ _ = W3 at *
  go_wp2
  exact bodyPost_ret (v := .agg C) (results_cell_row rfl _ _ _ 50 _ (0, 0) _ rfl HF.out Tryd.underlying50 rfl (by rw [HC.out.size]; exact info50)) rfl ⟨congrArg (fun a => Ending.returned (.agg a)) HCe.out.symm, HB.out⟩
set_option maxRecDepth 100000 in
theorem rset_1 (c : Array Value) (R : Nat → Nat) (h : CPU c R) (r wd : Int) (x i : Nat) (hx : x < 18446744073709551616) (hi : r % 16 = i) (hi16 : i < 16) (h1 : (wd == 1) = true) (w : World) :
    Calls Tryd.prog 32 #[.agg c, .int .i64 r, .int .i64 wd, .int .u64 x] w fun e w' => e = .returned (.agg (c.setIfInBounds i (.int .u64 (256 * (R i / 256) + x % 256 : Nat)))) ∧ Below w.heap.size w w' := by
  have HR := Lib.hid (h.reg i hi16)
  have HS := Lib.hid (ST.new w c Tryd.zeroCells50 zc50)
  have HV := Lib.hid (show bits .or .u64 (bits .andNot .u64 ((R i : Nat) : Int) 255) (bits .and .u64 (x : Int) 255) = ((256 * (R i / 256) + x % 256 : Nat) : Int) from st_1 (R i) x (h.lt i) hx)
  have HW : Hid (wdI wd = 1) := Lib.hid (by unfold wdI; simp at h1; simp [h1])
  have HC := Lib.hid (h.set i (256 * (R i / 256) + x % 256) hi16 (by have := h.lt i; omega))
  go_enter Tryd.func32, Tryd.ntmps32
  go_upto_region 1 with fail
  generalize World.alloc (World.alloc _ _) _ = W1 at *
  have hc := (HS.out.1.cell i).trans HR.out
  have hf := HS.out.1.froz i
  go_upto_region 10 with (first | (go_at_call 56; refine (place_any r i hi _).mono ?_; rintro e w' ⟨rfl, rfl⟩) | (go_at_call 57; refine (wide_any wd _).mono ?_; rw [HW.out]; rintro e w' ⟨rfl, rfl⟩))
  have HT := Lib.hid (HS.out.set i (.int .u64 (((256 * (R i / 256) + x % 256) : Nat) : Int)))
  try rw [← HV.out] at HT
  generalize World.setCell W1 _ _ = W2 at *
  try rw [HV.out] at HT
  clear HS hc hf
  generalize hC : c.setIfInBounds i (.int .u64 (((256 * (R i / 256) + x % 256) : Nat) : Int)) = C at *
  have HCe := Lib.hid hC
  clear hC
  refine wp_region_list ?_
  refine wpList_load50 rfl rfl rfl HT.out.1 HC.out.size ?_
  refine wpList_store50 rfl rfl rfl rfl HT.out.2.1 HT.out.2.2.1 HC.out.size HC.out.one ?_
  simp only [Act.put, List.setIfInBounds_toArray, List.set_cons_zero, List.set_cons_succ, List.getElem_toArray, List.getElem_cons_succ, List.getElem_cons_zero]
  refine wpList_nil ?_
  have HF := Lib.hid (HT.out.2.1.row (c := C))
  have HB := Lib.hid (below_row (vs := C) HT.out.2.2.2 (show w.heap.size ≤ w.heap.size + 1 by omega))
  generalize World.setRow _ _ _ = W3 at *
  go_wp2
  exact bodyPost_ret (v := .agg C) (results_cell_row rfl _ _ _ 50 _ (0, 0) _ rfl HF.out Tryd.underlying50 rfl (by rw [HC.out.size]; exact info50)) rfl ⟨congrArg (fun a => Ending.returned (.agg a)) HCe.out.symm, HB.out⟩
set_option maxRecDepth 100000 in
theorem rset_2 (c : Array Value) (R : Nat → Nat) (h : CPU c R) (r wd : Int) (x i : Nat) (hx : x < 18446744073709551616) (hi : r % 16 = i) (hi16 : i < 16) (h1 : (wd == 1) = false) (h2 : (wd == 2) = true) (w : World) :
    Calls Tryd.prog 32 #[.agg c, .int .i64 r, .int .i64 wd, .int .u64 x] w fun e w' => e = .returned (.agg (c.setIfInBounds i (.int .u64 (65536 * (R i / 65536) + x % 65536 : Nat)))) ∧ Below w.heap.size w w' := by
  have HR := Lib.hid (h.reg i hi16)
  have HS := Lib.hid (ST.new w c Tryd.zeroCells50 zc50)
  have HV := Lib.hid (show bits .or .u64 (bits .andNot .u64 ((R i : Nat) : Int) 65535) (bits .and .u64 (x : Int) 65535) = ((65536 * (R i / 65536) + x % 65536 : Nat) : Int) from st_2 (R i) x (h.lt i) hx)
  have HW : Hid (wdI wd = 2) := Lib.hid (by unfold wdI; simp at h2; simp [h2])
  have HC := Lib.hid (h.set i (65536 * (R i / 65536) + x % 65536) hi16 (by have := h.lt i; omega))
  go_enter Tryd.func32, Tryd.ntmps32
  go_upto_region 1 with fail
  generalize World.alloc (World.alloc _ _) _ = W1 at *
  have hc := (HS.out.1.cell i).trans HR.out
  have hf := HS.out.1.froz i
  go_upto_region 10 with (first | (go_at_call 56; refine (place_any r i hi _).mono ?_; rintro e w' ⟨rfl, rfl⟩) | (go_at_call 57; refine (wide_any wd _).mono ?_; rw [HW.out]; rintro e w' ⟨rfl, rfl⟩))
  have HT := Lib.hid (HS.out.set i (.int .u64 (((65536 * (R i / 65536) + x % 65536) : Nat) : Int)))
  try rw [← HV.out] at HT
  generalize World.setCell W1 _ _ = W2 at *
  try rw [HV.out] at HT
  clear HS hc hf
  generalize hC : c.setIfInBounds i (.int .u64 (((65536 * (R i / 65536) + x % 65536) : Nat) : Int)) = C at *
  have HCe := Lib.hid hC
  clear hC
  refine wp_region_list ?_
  refine wpList_load50 rfl rfl rfl HT.out.1 HC.out.size ?_
  refine wpList_store50 rfl rfl rfl rfl HT.out.2.1 HT.out.2.2.1 HC.out.size HC.out.one ?_
  simp only [Act.put, List.setIfInBounds_toArray, List.set_cons_zero, List.set_cons_succ, List.getElem_toArray, List.getElem_cons_succ, List.getElem_cons_zero]
  refine wpList_nil ?_
  have HF := Lib.hid (HT.out.2.1.row (c := C))
  have HB := Lib.hid (below_row (vs := C) HT.out.2.2.2 (show w.heap.size ≤ w.heap.size + 1 by omega))
  generalize World.setRow _ _ _ = W3 at *
  go_wp2
  exact bodyPost_ret (v := .agg C) (results_cell_row rfl _ _ _ 50 _ (0, 0) _ rfl HF.out Tryd.underlying50 rfl (by rw [HC.out.size]; exact info50)) rfl ⟨congrArg (fun a => Ending.returned (.agg a)) HCe.out.symm, HB.out⟩
set_option maxRecDepth 100000 in
theorem rset_4 (c : Array Value) (R : Nat → Nat) (h : CPU c R) (r wd : Int) (x i : Nat) (hx : x < 18446744073709551616) (hi : r % 16 = i) (hi16 : i < 16) (h1 : (wd == 1) = false) (h2 : (wd == 2) = false) (h4 : (wd == 4) = true) (w : World) :
    Calls Tryd.prog 32 #[.agg c, .int .i64 r, .int .i64 wd, .int .u64 x] w fun e w' => e = .returned (.agg (c.setIfInBounds i (.int .u64 (x % 4294967296 : Nat)))) ∧ Below w.heap.size w w' := by
  have HR := Lib.hid (h.reg i hi16)
  have HS := Lib.hid (ST.new w c Tryd.zeroCells50 zc50)
  have HV := Lib.hid (show bits .and .u64 (x : Int) 4294967295 = (((x % 4294967296 : Nat) : Int) : Int) from (and_low x hx).2.2)
  have HW : Hid (wdI wd = 4) := Lib.hid (by unfold wdI; simp at h4; simp [h4])
  have HC := Lib.hid (h.set i (x % 4294967296) hi16 (by omega))
  go_enter Tryd.func32, Tryd.ntmps32
  go_upto_region 1 with fail
  generalize World.alloc (World.alloc _ _) _ = W1 at *
  have hc := (HS.out.1.cell i).trans HR.out
  have hf := HS.out.1.froz i
  go_upto_region 10 with (first | (go_at_call 56; refine (place_any r i hi _).mono ?_; rintro e w' ⟨rfl, rfl⟩) | (go_at_call 57; refine (wide_any wd _).mono ?_; rw [HW.out]; rintro e w' ⟨rfl, rfl⟩))
  have HT := Lib.hid (HS.out.set i (.int .u64 (((x % 4294967296) : Nat) : Int)))
  try rw [← HV.out] at HT
  generalize World.setCell W1 _ _ = W2 at *
  try rw [HV.out] at HT
  clear HS hc hf
  generalize hC : c.setIfInBounds i (.int .u64 (((x % 4294967296) : Nat) : Int)) = C at *
  have HCe := Lib.hid hC
  clear hC
  refine wp_region_list ?_
  refine wpList_load50 rfl rfl rfl HT.out.1 HC.out.size ?_
  refine wpList_store50 rfl rfl rfl rfl HT.out.2.1 HT.out.2.2.1 HC.out.size HC.out.one ?_
  simp only [Act.put, List.setIfInBounds_toArray, List.set_cons_zero, List.set_cons_succ, List.getElem_toArray, List.getElem_cons_succ, List.getElem_cons_zero]
  refine wpList_nil ?_
  have HF := Lib.hid (HT.out.2.1.row (c := C))
  have HB := Lib.hid (below_row (vs := C) HT.out.2.2.2 (show w.heap.size ≤ w.heap.size + 1 by omega))
  generalize World.setRow _ _ _ = W3 at *
  go_wp2
  exact bodyPost_ret (v := .agg C) (results_cell_row rfl _ _ _ 50 _ (0, 0) _ rfl HF.out Tryd.underlying50 rfl (by rw [HC.out.size]; exact info50)) rfl ⟨congrArg (fun a => Ending.returned (.agg a)) HCe.out.symm, HB.out⟩
set_option maxRecDepth 100000 in
theorem rset_8 (c : Array Value) (R : Nat → Nat) (h : CPU c R) (r wd : Int) (x i : Nat) (hx : x < 18446744073709551616) (hi : r % 16 = i) (hi16 : i < 16) (h1 : (wd == 1) = false) (h2 : (wd == 2) = false) (h4 : (wd == 4) = false) (w : World) :
    Calls Tryd.prog 32 #[.agg c, .int .i64 r, .int .i64 wd, .int .u64 x] w fun e w' => e = .returned (.agg (c.setIfInBounds i (.int .u64 (x : Nat)))) ∧ Below w.heap.size w w' := by
  have HR := Lib.hid (h.reg i hi16)
  have HS := Lib.hid (ST.new w c Tryd.zeroCells50 zc50)
  have HV := Lib.hid (show (x : Int) = ((x : Nat) : Int) from (rfl : (x : Int) = (x : Nat)))
  have HW : Hid (wdI wd = 8) := Lib.hid (by unfold wdI; simp at h1 h2 h4; simp [h1, h2, h4])
  have HC := Lib.hid (h.set i x hi16 (hx))
  go_enter Tryd.func32, Tryd.ntmps32
  go_upto_region 1 with fail
  generalize World.alloc (World.alloc _ _) _ = W1 at *
  have hc := (HS.out.1.cell i).trans HR.out
  have hf := HS.out.1.froz i
  go_upto_region 10 with (first | (go_at_call 56; refine (place_any r i hi _).mono ?_; rintro e w' ⟨rfl, rfl⟩) | (go_at_call 57; refine (wide_any wd _).mono ?_; rw [HW.out]; rintro e w' ⟨rfl, rfl⟩))
  have HT := Lib.hid (HS.out.set i (.int .u64 ((x : Nat) : Int)))
  try rw [← HV.out] at HT
  generalize World.setCell W1 _ _ = W2 at *
  try rw [HV.out] at HT
  clear HS hc hf
  generalize hC : c.setIfInBounds i (.int .u64 ((x : Nat) : Int)) = C at *
  have HCe := Lib.hid hC
  clear hC
  refine wp_region_list ?_
  refine wpList_load50 rfl rfl rfl HT.out.1 HC.out.size ?_
  refine wpList_store50 rfl rfl rfl rfl HT.out.2.1 HT.out.2.2.1 HC.out.size HC.out.one ?_
  simp only [Act.put, List.setIfInBounds_toArray, List.set_cons_zero, List.set_cons_succ, List.getElem_toArray, List.getElem_cons_succ, List.getElem_cons_zero]
  refine wpList_nil ?_
  have HF := Lib.hid (HT.out.2.1.row (c := C))
  have HB := Lib.hid (below_row (vs := C) HT.out.2.2.2 (show w.heap.size ≤ w.heap.size + 1 by omega))
  generalize World.setRow _ _ _ = W3 at *
  go_wp2
  exact bodyPost_ret (v := .agg C) (results_cell_row rfl _ _ _ 50 _ (0, 0) _ rfl HF.out Tryd.underlying50 rfl (by rw [HC.out.size]; exact info50)) rfl ⟨congrArg (fun a => Ending.returned (.agg a)) HCe.out.symm, HB.out⟩
theorem set_any (c : Array Value) (R : Nat → Nat) (h : CPU c R) (r wd : Int) (x : Nat) (hx : x < 18446744073709551616) (w : World) :
    Calls Tryd.prog 31 #[.agg c, .int .i64 r, .int .i64 wd, .int .u64 x] w fun e w' => e = .returned (.agg (c.setIfInBounds (r % 16).toNat (.int .u64 (stN (R (r % 16).toNat) x wd : Nat)))) ∧ Below w.heap.size w w' := by
  have hi : r % 16 = (((r % 16).toNat : Nat) : Int) := by omega
  have hi16 : (r % 16).toNat < 16 := by omega
  unfold stN
  by_cases h1 : wd = 1
  · rw [if_pos h1]; exact set_1 c R h r wd x _ hx hi hi16 (by simpa using h1) w
  · by_cases h2 : wd = 2
    · rw [if_neg h1, if_pos h2]; exact set_2 c R h r wd x _ hx hi hi16 (by simpa using h1) (by simpa using h2) w
    · by_cases h4 : wd = 4
      · rw [if_neg h1, if_neg h2, if_pos h4]; exact set_4 c R h r wd x _ hx hi hi16 (by simpa using h1) (by simpa using h2) (by simpa using h4) w
      · rw [if_neg h1, if_neg h2, if_neg h4]; exact set_8 c R h r wd x _ hx hi hi16 (by simpa using h1) (by simpa using h2) (by simpa using h4) w
theorem rset_any (c : Array Value) (R : Nat → Nat) (h : CPU c R) (r wd : Int) (x : Nat) (hx : x < 18446744073709551616) (w : World) :
    Calls Tryd.prog 32 #[.agg c, .int .i64 r, .int .i64 wd, .int .u64 x] w fun e w' => e = .returned (.agg (c.setIfInBounds (r % 16).toNat (.int .u64 (stN (R (r % 16).toNat) x wd : Nat)))) ∧ Below w.heap.size w w' := by
  have hi : r % 16 = (((r % 16).toNat : Nat) : Int) := by omega
  have hi16 : (r % 16).toNat < 16 := by omega
  unfold stN
  by_cases h1 : wd = 1
  · rw [if_pos h1]; exact rset_1 c R h r wd x _ hx hi hi16 (by simpa using h1) w
  · by_cases h2 : wd = 2
    · rw [if_neg h1, if_pos h2]; exact rset_2 c R h r wd x _ hx hi hi16 (by simpa using h1) (by simpa using h2) w
    · by_cases h4 : wd = 4
      · rw [if_neg h1, if_neg h2, if_pos h4]; exact rset_4 c R h r wd x _ hx hi hi16 (by simpa using h1) (by simpa using h2) (by simpa using h4) w
      · rw [if_neg h1, if_neg h2, if_neg h4]; exact rset_8 c R h r wd x _ hx hi hi16 (by simpa using h1) (by simpa using h2) (by simpa using h4) w
end Go.Proofs.YtkpnafgmjcnniaaDoor
