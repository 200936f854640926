/- A form in a block of its own. -/
import Derived.Test.YtaeehinlgmijgaaDoorSt
namespace Go.Proofs.YtaeehinlgmijgaaDoor
open Go.RowKit Go.Shelf
set_option linter.unusedVariables false
set_option linter.unusedSimpArgs false
theorem info23 : (Tryd.prog.info? 23).map (·.size) = some 14 := by kernel_rfl
theorem Fm.size (f : Fm) : f.cs.toArray.size = 14 := rfl
theorem Fm.one (f : Fm) : f.cs.toArray.all (·.oneCell') = true := by
  obtain ⟨xp, xm, xo, xl, xd, xdo, xcc, xw, xk, xi, x1, x2, x3, x4⟩ := f
  simp [Fm.cs, fcs, Value.oneCell']
/-- A form lies in a block of its own. -/
def FB (W : World) (b : Nat) (f : Fm) : Prop := W.heap[b]? = some (.cells f.cs.toArray 23 (0, 0))
theorem FB.lt {W : World} {b : Nat} {f : Fm} (h : FB W b f) : b < W.heap.size := (Array.getElem?_eq_some_iff.1 h).1
theorem FB.keep {W W' : World} {b : Nat} {f : Fm} (h : FB W b f) (hb : Below W.heap.size W W') : FB W' b f := (hb.block b h.lt).trans h
theorem FB.at {W : World} {b : Nat} {f : Fm} (h : FB W b f) (i : Nat) (v : Value) (hv : f.cs[i]? = some v) : W.cell? ⟨b, i, none⟩ = some v := by
  have h' : W.heap[b]? = some (.cells f.cs.toArray 23 (0, 0)) := h
  simp [World.cell?, h', hv]
theorem FB.row {W : World} {b : Nat} {u f : Fm} (h : FB W b u) : FB (W.setRow b f.cs.toArray) b f := setRow_heap _ _ _ _ _ _ h
theorem load23_run {W : World} {b : Nat} {f : Fm} (h : FB W b f) : (loadVar 23 ⟨b, 0, none⟩).run Tryd.prog W = .ok f.v W :=
  run_loadVar_row _ _ 23 23 f.cs.toArray (0, 0) _ h Tryd.underlying23 rfl (by rw [Fm.size]; exact info23)
theorem store23_run {W : World} {b : Nat} {u f : Fm} (h : FB W b u) : (storeVar 23 ⟨b, 0, none⟩ f.v).run Tryd.prog W = .ok () (W.setRow b f.cs.toArray) :=
  run_storeVar_row _ _ 23 23 u.cs.toArray f.cs.toArray h (by rw [Fm.size]; exact info23) (by rw [Fm.size, Fm.size]) f.one
theorem wpListIn_load23 {F : Fence} {n : Nat} {ops : Array Oper} {Q : Exit → Act → World → Prop} {o : Oper} {rest : List Oper} {a : Act} {W : World} {x : Operand} {b : Nat} {f : Fm}
    (ho : o.op = .load 23 x) (hw : Region.wanted o (yielded ops a.tmps) = true) (hx : a.eval x = .pointer (some ⟨b, 0, none⟩)) (h : FB W b f)
    (hn : wpListIn F n Tryd.prog ops Q rest (a.put o.dst f.v) W) : wpListIn F n Tryd.prog ops Q (o :: rest) a W := by
  have e : (execOp a.eval o).run Tryd.prog W = .ok (.value f.v) W := by
    unfold execOp
    rw [ho]
    simp only [hx, Instr.loadAt, Instr.sureAddr, Sem.run_bind, Sem.run_pure, Result.andThen, load23_run h]
  have ha : ∀ g, o.about Tryd.prog W a.eval = some g → F.fn g := fun g hf => by
    unfold Oper.about at hf
    rw [ho] at hf
    cases hf
  have es : Oper.semAt F.round a.eval o = execOp a.eval o := Oper.semAt_plain F _ o (fun c hc => by rw [ho] at hc; cases hc)
  simp only [wpListIn, hw, if_true, Oper.wpIn, es, e, Oper.uponIn_value]
  exact ⟨ha, hn⟩
theorem wpListIn_store23 {F : Fence} {n : Nat} {ops : Array Oper} {Q : Exit → Act → World → Prop} {o : Oper} {rest : List Oper} {a : Act} {W : World} {x y : Operand} {b : Nat} {u f : Fm}
    (ho : o.op = .store 23 x y) (hw : Region.wanted o (yielded ops a.tmps) = true) (hx : a.eval x = .pointer (some ⟨b, 0, none⟩)) (hy : a.eval y = f.v) (h : FB W b u)
    (hn : wpListIn F n Tryd.prog ops Q rest (a.put o.dst undef) (W.setRow b f.cs.toArray)) : wpListIn F n Tryd.prog ops Q (o :: rest) a W := by
  have e : (execOp a.eval o).run Tryd.prog W = .ok .skip (W.setRow b f.cs.toArray) := by
    unfold execOp
    rw [ho]
    simp only [hx, hy, Instr.storeAt, Instr.sureAddr, Sem.run_bind, Sem.run_pure, Result.andThen, store23_run h]
  have ha : ∀ g, o.about Tryd.prog W a.eval = some g → F.fn g := fun g hf => by
    unfold Oper.about at hf
    rw [ho] at hf
    cases hf
  have es : Oper.semAt F.round a.eval o = execOp a.eval o := Oper.semAt_plain F _ o (fun c hc => by rw [ho] at hc; cases hc)
  simp only [wpListIn, hw, if_true, Oper.wpIn, es, e, Oper.uponIn_skip]
  exact ⟨ha, hn⟩
theorem below_keeps {W W' : World} (h : Below W.heap.size W W') (B : Nat) : KeepsFrom B W W' := ⟨h.size, fun k o _ hk _ => (h.block k (Array.getElem?_eq_some_iff.1 hk).1).trans hk⟩
theorem kpC_set {B b : Nat} (W : World) (o : Nat) (v : Value) (hb : b < B) (h2 : 2 ≤ b) : KpC B W (W.setCell ⟨b, o, none⟩ v) :=
  have hs : ∀ k, k ≠ b → (W.setCell ⟨b, o, none⟩ v).heap[k]? = W.heap[k]? := fun k hk => Below.heap_setCell W ⟨b, o, none⟩ v k hk
  ⟨by simp [World.setCell], fun k c fr hk hc => (hs k (by omega)).trans hc, fun g => g.block (hs 0 (by omega)) (hs 1 (by omega))⟩
theorem kpC_row {B b : Nat} (W : World) (c : Array Value) (hb : b < B) (h2 : 2 ≤ b) : KpC B W (W.setRow b c) :=
  have hs : ∀ k, k ≠ b → (W.setRow b c).heap[k]? = W.heap[k]? := fun k hk => setRow_other (fun e => hk e)
  ⟨by simp [World.setRow], fun k c fr hk hc => (hs k (by omega)).trans hc, fun g => g.block (hs 0 (by omega)) (hs 1 (by omega))⟩
theorem ownFrom_block {β : Type} (B q : Nat) (c : β → Array Value) (t : TypeId) : OwnFrom B (fun (s : β) W => W.heap[q]? = some (.cells (c s) t (0, 0))) := fun s X Y row hs hg hr => by
  refine (hg.block q (Array.getElem?_eq_some_iff.1 hs).1 (fun e => ?_)).trans hs
  obtain ⟨_, o, ho, hc⟩ := hr q e.symm
  rw [hs] at ho; cases ho; cases hc
end Go.Proofs.YtaeehinlgmijgaaDoor
