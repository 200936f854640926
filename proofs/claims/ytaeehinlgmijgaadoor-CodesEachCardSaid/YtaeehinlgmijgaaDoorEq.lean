/- Forms compared. -/
import Derived.Test.YtaeehinlgmijgaaDoorWa
import Derived.DeepKeys
namespace Go.Proofs.YtaeehinlgmijgaaDoor
open Go.RowKit Go.Shelf
set_option linter.unusedVariables false
set_option linter.unusedSimpArgs false
def litsOf (f : Fm) : List Lit := [.int .u8 (f.p : Nat), .int .u8 (f.m : Nat), .int .u8 (f.o : Nat), .bool f.plus, .int .i64 f.d, .int .u8 (f.deed : Nat), .int .u8 (f.cc : Nat), .int .i64 f.wide, .int .u8 (f.kind : Nat), .int .i64 f.imm, .bool f.must, .bool f.vec, .bool f.byte, .bool f.mem]
def zformsL : List Fm := zf :: formsL
theorem lits_all : zformsL.map (fun f => Tryd.prog.keyLits 2 23 f.cs) = zformsL.map (fun f => some (litsOf f)) := by kernel_rfl
theorem lits_of {f : Fm} (h : f ∈ zformsL) : Tryd.prog.keyLits 2 23 f.cs = some (litsOf f) := List.map_inj_left.1 lits_all f h
theorem litsOf_inj {f g : Fm} (h : litsOf f = litsOf g) : f = g := by
  obtain ⟨xp, xm, xo, xl, xd, xdo, xcc, xw, xk, xi, x1, x2, x3, x4⟩ := f
  obtain ⟨yp, ym, yo, yl, yd, ydo, ycc, yw, yk, yi, y1, y2, y3, y4⟩ := g
  simp only [litsOf, Fm.p, Fm.m, Fm.o, Fm.plus, Fm.d, Fm.deed, Fm.cc, Fm.wide, Fm.kind, Fm.imm, Fm.must, Fm.vec, Fm.byte, Fm.mem, List.cons.injEq, Lit.int.injEq, Lit.bool.injEq, Int.natCast_inj, true_and, and_true] at h
  simp [h]
theorem eq23x {f g : Fm} (hf : f ∈ zformsL) (hg : g ∈ zformsL) (w : World) : ∃ r : Bool, (Op.equalIn 10000 23 f.v g.v).run Tryd.prog w = .ok r w ∧ (r = true ↔ f = g) := by
  have h1 : ∀ f : Fm, f.v.formed Tryd.prog 23 = true := fun f => by
    obtain ⟨xp, xm, xo, xl, xd, xdo, xcc, xw, xk, xi, x1, x2, x3, x4⟩ := f
    kernel_rfl
  have h2 : ∀ f : Fm, f ∈ zformsL → Tryd.prog.keyLits 2 23 f.v.cells.toList = some (litsOf f) := fun f h => by
    have := lits_of h
    simpa [Fm.v, Value.cells] using this
  obtain ⟨r, hr, h3⟩ := run_equalIn_deep (P := Tryd.prog) 9998 2 23 (by kernel_rfl) w 2 2 f.v g.v (litsOf f) (litsOf g) (h1 f) (h1 g) (h2 f hf) (h2 g hg)
  exact ⟨r, hr, h3.trans ⟨litsOf_inj, fun e => by rw [e]⟩⟩
theorem eq23_same {f : Fm} (hf : f ∈ zformsL) (w : World) : (Op.equalIn 10000 23 f.v f.v).run Tryd.prog w = .ok true w := by
  obtain ⟨r, hr, h⟩ := eq23x hf hf w
  rw [hr, h.2 rfl]
theorem eq23_ne {f g : Fm} (hf : f ∈ zformsL) (hg : g ∈ zformsL) (hn : f ≠ g) (w : World) : (Op.equalIn 10000 23 f.v g.v).run Tryd.prog w = .ok false w := by
  obtain ⟨r, hr, h⟩ := eq23x hf hg w
  rw [hr, Bool.eq_false_iff.2 (fun e => hn (h.1 e))]
theorem guard23 (op : BinOp) (X Y : Operand) (f g : Fm) (W : World) : (eqGuard op 23 X Y f.v g.v).run Tryd.prog W = .ok () W := by
  obtain ⟨xp, xm, xo, xl, xd, xdo, xcc, xw, xk, xi, x1, x2, x3, x4⟩ := f
  obtain ⟨yp, ym, yo, yl, yd, ydo, ycc, yw, yk, yi, y1, y2, y3, y4⟩ := g
  cases op <;> kernel_rfl
theorem bin23_eql (f g : Fm) : binOp .eql 23 f.v g.v = (do pure (.bool (← Op.equal 23 f.v g.v))) := by
  unfold Fm.v binOp
  rfl
theorem bin23_neq (f g : Fm) : binOp .neq 23 f.v g.v = (do pure (.bool (!(← Op.equal 23 f.v g.v)))) := by
  unfold Fm.v binOp
  rfl
theorem exec_eql23 {o : Oper} {ρ : Operand → Value} {W : World} {X Y : Operand} {f g : Fm} {r : Bool} {ty : TypeId} (ho : o.op = .binOp .eql 23 X Y ty) (hx : ρ X = f.v) (hy : ρ Y = g.v)
    (he : (Op.equalIn 10000 23 f.v g.v).run Tryd.prog W = .ok r W) : (execOp ρ o).run Tryd.prog W = .ok (.value (.bool r)) W := by
  unfold execOp
  rw [ho]
  have he' : (Op.equal 23 f.v g.v).run Tryd.prog W = .ok r W := he
  simp only [hx, hy, Sem.run_bind, guard23, Result.andThen, bin23_eql, he', Sem.run_pure]
theorem exec_neq23 {o : Oper} {ρ : Operand → Value} {W : World} {X Y : Operand} {f g : Fm} {r : Bool} {ty : TypeId} (ho : o.op = .binOp .neq 23 X Y ty) (hx : ρ X = f.v) (hy : ρ Y = g.v)
    (he : (Op.equalIn 10000 23 f.v g.v).run Tryd.prog W = .ok r W) : (execOp ρ o).run Tryd.prog W = .ok (.value (.bool (!r))) W := by
  unfold execOp
  rw [ho]
  have he' : (Op.equal 23 f.v g.v).run Tryd.prog W = .ok r W := he
  simp only [hx, hy, Sem.run_bind, guard23, Result.andThen, bin23_neq, he', Sem.run_pure]
theorem wpList_neq23 {ops : Array Oper} {Q : Exit → Act → World → Prop} {o : Oper} {rest : List Oper} {a : Act} {W : World} {X Y : Operand} {f g : Fm} {r : Bool} {ty : TypeId}
    (ho : o.op = .binOp .neq 23 X Y ty) (hw : Region.wanted o (yielded ops a.tmps) = true) (hx : a.eval X = f.v) (hy : a.eval Y = g.v) (he : (Op.equalIn 10000 23 f.v g.v).run Tryd.prog W = .ok r W)
    (hn : wpList Tryd.prog ops Q rest (a.put o.dst (.bool (!r))) W) : wpList Tryd.prog ops Q (o :: rest) a W := by
  have e := exec_neq23 (ρ := a.eval) ho hx hy he
  unfold wpList
  rw [if_pos hw]
  refine .inl ?_
  unfold Oper.wp
  rw [e, Oper.upon_value]
  exact hn
theorem wpList_eql23 {ops : Array Oper} {Q : Exit → Act → World → Prop} {o : Oper} {rest : List Oper} {a : Act} {W : World} {X Y : Operand} {f g : Fm} {r : Bool} {ty : TypeId}
    (ho : o.op = .binOp .eql 23 X Y ty) (hw : Region.wanted o (yielded ops a.tmps) = true) (hx : a.eval X = f.v) (hy : a.eval Y = g.v) (he : (Op.equalIn 10000 23 f.v g.v).run Tryd.prog W = .ok r W)
    (hn : wpList Tryd.prog ops Q rest (a.put o.dst (.bool r)) W) : wpList Tryd.prog ops Q (o :: rest) a W := by
  have e := exec_eql23 (ρ := a.eval) ho hx hy he
  unfold wpList
  rw [if_pos hw]
  refine .inl ?_
  unfold Oper.wp
  rw [e, Oper.upon_value]
  exact hn
theorem mem_z {f : Fm} (h : f ∈ formsL) : f ∈ zformsL := List.mem_cons_of_mem _ h
theorem zf_z : zf ∈ zformsL := List.mem_cons_self
end Go.Proofs.YtaeehinlgmijgaaDoor
