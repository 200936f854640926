/- Rows of segments and sections; a header in a block of its own; first bytes compared. -/
import Derived.DeepKeys
import Derived.Laws.Cover3
import Derived.Test.YtnaggdhophncaaaDoorKi
namespace Go.Proofs.YtnaggdhophncaaaDoor
open Go.RowKit Go.Shelf
set_option linter.unusedVariables false
set_option linter.unusedSimpArgs false
attribute [local go_sem] Oper.semAt_some
def shZ (z : Nat → Nat) (o : Nat) : Nat → Nat := fun j => z (o + j)
def segC (z : Nat → Nat) : List Value := [.int .u32 (numZ z 0 4 : Nat), .int .u32 (numZ z 4 4 : Nat), .int .u64 (numZ z 8 8 : Nat), .int .u64 (numZ z 16 8 : Nat), .int .u64 (numZ z 32 8 : Nat), .int .u64 (numZ z 40 8 : Nat), .int .u64 (numZ z 48 8 : Nat)]
def secC (z : Nat → Nat) : List Value := [.int .u32 (numZ z 4 4 : Nat), .int .u64 (numZ z 24 8 : Nat), .int .u64 (numZ z 32 8 : Nat), .int .u32 (numZ z 40 4 : Nat), .int .u64 (numZ z 56 8 : Nat)]
/-- The cells of so many things of a size, from a place on. -/
def rowsL (c : (Nat → Nat) → List Value) (z : Nat → Nat) (o sz k : Nat) : List Value := (List.range k).flatMap (fun i => c (shZ z (o + i * sz)))
theorem rowsL_succ (c : (Nat → Nat) → List Value) (z : Nat → Nat) (o sz k : Nat) : rowsL c z o sz (k + 1) = rowsL c z o sz k ++ c (shZ z (o + k * sz)) := by
  unfold rowsL
  rw [List.range_succ, List.flatMap_append]
  simp
theorem rowsL_len {c : (Nat → Nat) → List Value} {m : Nat} (hc : ∀ z, (c z).length = m) (z : Nat → Nat) (o sz k : Nat) : (rowsL c z o sz k).length = k * m := by
  induction k with
  | zero => simp [rowsL]
  | succ k ih => rw [rowsL_succ, List.length_append, ih, hc, Nat.succ_mul]
theorem cells_newL (W : World) (L : List Value) (ty : TypeId) (j : Nat) (u : Value) (hu : L[j]? = some u) : (W.alloc (.cells L.toArray ty)).cell? ((⟨W.heap.size, 0, none⟩ : Addr).add j) = some u := by
  rw [Addr.add_mid, Nat.zero_add]
  exact cell_at (heap_alloc_last W (.cells L.toArray ty)) (by simpa using hu)
/-- A header's cells. -/
def hcv (en so sc : Nat) (v1 v2 : Value) : Array Value := #[.int .u64 (en : Nat), .int .u64 (so : Nat), .int .u64 (sc : Nat), v1, v2]
theorem info27 : (Tryd.prog.info? 27).map (·.size) = some 5 := by kernel_rfl
theorem load27_run {W : World} {b : Nat} {c : Array Value} (h : W.heap[b]? = some (.cells c 27 (0, 0))) (hs : c.size = 5) : (loadVar 27 ⟨b, 0, none⟩).run Tryd.prog W = .ok (.agg c) W :=
  run_loadVar_row _ _ 27 27 c (0, 0) _ h Tryd.underlying27 rfl (by rw [hs]; exact info27)
theorem store27_run {W : World} {b : Nat} {c u : Array Value} (h : W.heap[b]? = some (.cells u 27 (0, 0))) (hu : u.size = 5) (hs : c.size = 5) (ho : c.all (·.oneCell') = true) : (storeVar 27 ⟨b, 0, none⟩ (.agg c)).run Tryd.prog W = .ok () (W.setRow b c) :=
  run_storeVar_row _ _ 27 27 u c h (by rw [hs]; exact info27) (by rw [hu, hs]) ho
theorem wpList_load27 {ops : Array Oper} {Q : Exit → Act → World → Prop} {o : Oper} {rest : List Oper} {a : Act} {W : World} {x : Operand} {b : Nat} {c : Array Value}
    (ho : o.op = .load 27 x) (hg : o.guard = none) (hx : a.eval x = .pointer (some ⟨b, 0, none⟩)) (h : W.heap[b]? = some (.cells c 27 (0, 0))) (hs : c.size = 5)
    (hn : wpList Tryd.prog ops Q rest (a.put o.dst (.agg c)) W) : wpList Tryd.prog ops Q (o :: rest) a W := by
  refine wpList_plain hg fun K hK => ?_
  have e : (execOp a.eval o).run Tryd.prog W = .ok (.value (.agg c)) W := by
    unfold execOp
    rw [ho]
    simp only [hx, Instr.loadAt, Instr.sureAddr, Sem.run_bind, Sem.run_pure, Result.andThen, load27_run h hs]
  unfold Oper.wp
  rw [e, Oper.upon_value]
  exact hK _ _ hn
theorem wpList_store27 {ops : Array Oper} {Q : Exit → Act → World → Prop} {o : Oper} {rest : List Oper} {a : Act} {W : World} {x y : Operand} {b : Nat} {u c : Array Value}
    (ho : o.op = .store 27 x y) (hg : o.guard = none) (hx : a.eval x = .pointer (some ⟨b, 0, none⟩)) (hy : a.eval y = .agg c) (h : W.heap[b]? = some (.cells u 27 (0, 0))) (hu : u.size = 5) (hs : c.size = 5) (h1 : c.all (·.oneCell') = true)
    (hn : wpList Tryd.prog ops Q rest (a.put o.dst undef) (W.setRow b c)) : wpList Tryd.prog ops Q (o :: rest) a W := by
  refine wpList_plain hg fun K hK => ?_
  have e : (execOp a.eval o).run Tryd.prog W = .ok .skip (W.setRow b c) := by
    unfold execOp
    rw [ho]
    simp only [hx, hy, Instr.storeAt, Instr.sureAddr, Sem.run_bind, Sem.run_pure, Result.andThen, store27_run h hu hs h1]
  unfold Oper.wp
  rw [e, Oper.upon_skip]
  exact hK _ _ hn
/-- What a loop keeps that appends things to a header's field: the header in its box, the row, all else as it was. -/
def LS (W0 : World) (H : Nat) (cs : Array Value) (ty : TypeId) (sz : Nat) (v : Value) (k : Nat) (L : List Value) (W : World) : Prop := W.heap[H]? = some (.cells cs 27 (0, 0)) ∧ W.ownsRow W0.heap.size ty sz v k L ∧ W0.grownBy W (some H)
theorem owns_block {W : World} {n : Nat} {ty : TypeId} {sz : Nat} {v : Value} {k : Nat} {L : List Value} (h : W.ownsRow n ty sz v k L) : ∀ q, v.ownBlock = some q → n ≤ q := fun q e => by
  rcases h.2 with ⟨rfl, _⟩ | ⟨g, cap, cur, rfl, hg, _⟩
  · cases e
  · cases e; exact hg
theorem owns_slice {W : World} {n : Nat} {ty : TypeId} {sz : Nat} {v : Value} {k : Nat} {L : List Value} (h : W.ownsRow n ty sz v k L) : ∃ a c, v = .slice a k c := by
  rcases h.2 with ⟨rfl, rfl⟩ | ⟨g, cap, cur, rfl, hg, _⟩
  · exact ⟨_, _, rfl⟩
  · exact ⟨_, _, rfl⟩
section
variable {w W0 W W' : World} {H : Nat} {cs : Array Value} {ty : TypeId} {sz : Nat} {v v' : Value} {k k' : Nat} {L L' : List Value}
theorem LS.keep (h : LS W0 H cs ty sz v k L W) (hb : Below W.heap.size W W') : LS W0 H cs ty sz v k L W' :=
  ⟨(hb.block H (Array.getElem?_eq_some_iff.1 h.1).1).trans h.1, h.2.1.kept ⟨hb.os, hb.tape, hb.output, hb.size, fun q hq _ => hb.block q hq⟩ (row := none) (by cases v.ownBlock <;> simp),
    h.2.2.trans ⟨hb.os, hb.tape, hb.output, hb.size, fun q hq _ => hb.block q hq⟩⟩
theorem LS.app (hH : H < W0.heap.size) (h : LS W0 H cs ty sz v k L W) (ho : W'.ownsRow W0.heap.size ty sz v' k' L') (hg : W.grownBy W' v.ownBlock) : LS W0 H cs ty sz v' k' L' W' := by
  have hn := owns_block h.2.1
  refine ⟨(hg.block H (Array.getElem?_eq_some_iff.1 h.1).1 (fun e => by have := hn H e.symm; omega)).trans h.1, ho, ?_⟩
  exact ⟨hg.os.trans h.2.2.os, hg.tape.trans h.2.2.tape, hg.output.trans h.2.2.output, Nat.le_trans h.2.2.size hg.size, fun q hq hne => (hg.block q (Nat.lt_of_lt_of_le hq h.2.2.size) (fun e => by have := hn q e.symm; omega)).trans (h.2.2.block q hq hne)⟩
theorem LS.set (hH : H < W0.heap.size) (h : LS W0 H cs ty sz v k L W) (i : Nat) (x : Value) : LS W0 H (cs.setIfInBounds i x) ty sz v k L (W.setCell ⟨H, i, none⟩ x) := by
  have hn := owns_block h.2.1
  have hg := grown_set (k := i) (v := x) h.1
  exact ⟨set_at h.1, h.2.1.kept hg (by
    cases hv : v.ownBlock with
    | none => exact .inl rfl
    | some q => exact .inr (fun e => by have := hn q hv; cases e; omega)), h.2.2.trans hg⟩
theorem LS.below (h : LS W0 H cs ty sz v k L W) (hb : Below w.heap.size w W0) (hH : w.heap.size ≤ H) : Below w.heap.size w W :=
  ⟨h.2.2.os.trans hb.os, h.2.2.tape.trans hb.tape, h.2.2.output.trans hb.output, Nat.le_trans hb.size h.2.2.size, fun q hq => (h.2.2.block q (Nat.lt_of_lt_of_le hq hb.size) (fun e => by cases e; omega)).trans (hb.block q hq)⟩
theorem LS.start (hc : W0.heap[H]? = some (.cells cs 27 (0, 0))) : LS W0 H cs ty sz (.slice none 0 0) 0 [] W0 := ⟨hc, World.ownsRow_nil _ _ _ _, ⟨rfl, rfl, rfl, Nat.le_refl _, fun _ _ _ => rfl⟩⟩
end
/-- The first four bytes compared. -/
theorem lit_b (d x : Nat) (h : x < 256) : Tryd.prog.keyLits (d + 1) 5 [.int .u8 (x : Nat)] = some [.int .u8 (x : Nat)] := by
  unfold Program.keyLits
  rw [Tryd.underlying5]
  have hw : (Lit.int .u8 (x : Nat)).wf = true := by
    unfold Lit.wf
    simp [IntKind.has, IntKind.min, IntKind.max, IntKind.bits, IntKind.signed]
    omega
  simp [hw]
theorem cellsB : Tryd.prog.cellsOf 5 = 1 := by kernel_rfl
theorem cells53 : Tryd.prog.cellsOf 53 = 4 := by kernel_rfl
def v53 (a b c d : Nat) : Value := .agg #[.int .u8 (a : Nat), .int .u8 (b : Nat), .int .u8 (c : Nat), .int .u8 (d : Nat)]
theorem lits53 (a b c d : Nat) (ha : a < 256) (hb : b < 256) (hc : c < 256) (hd : d < 256) : Tryd.prog.keyLits 2 53 [.int .u8 (a : Nat), .int .u8 (b : Nat), .int .u8 (c : Nat), .int .u8 (d : Nat)] = some [.int .u8 (a : Nat), .int .u8 (b : Nat), .int .u8 (c : Nat), .int .u8 (d : Nat)] := by
  unfold Program.keyLits
  rw [Tryd.underlying53]
  simp [cellsB, cells53, List.range, List.range.loop, lit_b 0 a ha, lit_b 0 b hb, lit_b 0 c hc, lit_b 0 d hd]
def magB (a b c d : Nat) : Bool := a == 127 && (b == 69 && (c == 76 && d == 70))
theorem eq53 (a b c d : Nat) (ha : a < 256) (hb : b < 256) (hc : c < 256) (hd : d < 256) (w : World) : (Op.equalIn 10000 53 (v53 a b c d) (v53 127 69 76 70)).run Tryd.prog w = .ok (magB a b c d) w := by
  obtain ⟨r, hr, h3⟩ := run_equalIn_deep (P := Tryd.prog) 9998 2 53 (by kernel_rfl) w 4 4 (v53 a b c d) (v53 127 69 76 70) _ _ (by kernel_rfl) (by kernel_rfl) (lits53 a b c d ha hb hc hd) (lits53 127 69 76 70 (by decide) (by decide) (by decide) (by decide))
  rw [hr]
  congr 1
  rw [Bool.eq_iff_iff, h3]
  unfold magB
  simp only [List.cons.injEq, Lit.int.injEq, true_and, and_true, Int.natCast_inj, Bool.and_eq_true, beq_iff_eq]
theorem guard53 (op : BinOp) (X Y : Operand) (a b c d a' b' c' d' : Nat) (W : World) : (eqGuard op 53 X Y (v53 a b c d) (v53 a' b' c' d')).run Tryd.prog W = .ok () W := by
  cases op <;> kernel_rfl
theorem bin53_neq (a b c d a' b' c' d' : Nat) : binOp .neq 53 (v53 a b c d) (v53 a' b' c' d') = (do pure (.bool (!(← Op.equal 53 (v53 a b c d) (v53 a' b' c' d'))))) := by
  unfold v53 binOp
  rfl
theorem exec_neq53 {o : Oper} {ρ : Operand → Value} {W : World} {X Y : Operand} {a b c d : Nat} {ty : TypeId} (ho : o.op = .binOp .neq 53 X Y ty) (hx : ρ X = v53 a b c d) (hy : ρ Y = v53 127 69 76 70) (ha : a < 256) (hb : b < 256) (hc : c < 256) (hd : d < 256) :
    (execOp ρ o).run Tryd.prog W = .ok (.value (.bool (!magB a b c d))) W := by
  unfold execOp
  rw [ho]
  have he' : (Op.equal 53 (v53 a b c d) (v53 127 69 76 70)).run Tryd.prog W = .ok (magB a b c d) W := eq53 a b c d ha hb hc hd W
  simp only [hx, hy, Sem.run_bind, guard53, Result.andThen, bin53_neq, he', Sem.run_pure]
end Go.Proofs.YtnaggdhophncaaaDoor
