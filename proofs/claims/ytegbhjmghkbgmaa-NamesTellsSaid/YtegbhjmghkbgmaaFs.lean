/- Sections in blocks of their own. -/
import Derived.Test.YtegbhjmghkbgmaaWk
namespace Go.Proofs.Ytegbhjmghkbgmaa
open Go.RowKit Go.Shelf
set_option linter.unusedVariables false
set_option linter.unusedSimpArgs false
attribute [local go_sem] Oper.semAt_some
/-- A section in a block of its own. -/
def QB (W : World) (b : Nat) (s : Sc) : Prop := W.heap[b]? = some (.cells s.cs.toArray 54 (0, 0))
theorem QB.c {W : World} {b : Nat} {s : Sc} (h : QB W b s) : W.cell? ⟨b, 0, none⟩ = some (.int .u32 (s.1 : Nat)) ∧ W.cell? ⟨b, 1, none⟩ = some (.int .u64 (s.2.1 : Nat)) ∧ W.cell? ⟨b, 2, none⟩ = some (.int .u64 (s.2.2.1 : Nat)) ∧ W.cell? ⟨b, 3, none⟩ = some (.int .u32 (s.2.2.2.1 : Nat)) ∧ W.cell? ⟨b, 4, none⟩ = some (.int .u64 (s.2.2.2.2 : Nat)) :=
  ⟨cell_at h rfl, cell_at h rfl, cell_at h rfl, cell_at h rfl, cell_at h rfl⟩
theorem QB.f {W : World} {b : Nat} {s : Sc} (h : QB W b s) (i : Nat) : W.frozen? ⟨b, i, none⟩ = false := frozen_at h i
theorem info54 : (Try.prog.info? 54).map (·.size) = some 5 := by kernel_rfl
theorem store54_run {W : World} {b : Nat} {u f : Sc} (h : QB W b u) : (storeVar 54 ⟨b, 0, none⟩ f.v).run Try.prog W = .ok () (W.setRow b f.cs.toArray) :=
  run_storeVar_row _ _ 54 54 u.cs.toArray f.cs.toArray h info54 rfl (by simp [Sc.cs, Value.oneCell'])
theorem wp_store54 {o : Oper} {a : Act} {W : World} {K : Act → World → Prop} {Q : Exit → Act → World → Prop} {x y : Operand} {b : Nat} {u f : Sc} (ho : o.op = .store 54 x y) (hx : a.eval x = .pointer (some ⟨b, 0, none⟩)) (hy : a.eval y = f.v) (h : QB W b u)
    (hK : K (a.put o.dst undef) (W.setRow b f.cs.toArray)) : Oper.wp Try.prog o a W K Q := by
  have e : (execOp a.eval o).run Try.prog W = .ok .skip (W.setRow b f.cs.toArray) := by
    unfold execOp
    rw [ho]
    simp only [hx, hy, Instr.storeAt, Instr.sureAddr, Sem.run_bind, Sem.run_pure, Result.andThen, store54_run h]
  unfold Oper.wp
  rw [e, Oper.upon_skip]
  exact hK
theorem wpList_store54 {ops : Array Oper} {Q : Exit → Act → World → Prop} {o : Oper} {rest : List Oper} {a : Act} {W : World} {x y : Operand} {b : Nat} {u f : Sc}
    (ho : o.op = .store 54 x y) (hg : o.guard = none) (hx : a.eval x = .pointer (some ⟨b, 0, none⟩)) (hy : a.eval y = f.v) (h : QB W b u)
    (hn : wpList Try.prog ops Q rest (a.put o.dst undef) (W.setRow b f.cs.toArray)) : wpList Try.prog ops Q (o :: rest) a W := by
  refine wpList_plain hg fun K hK => ?_
  exact wp_store54 ho hx hy h (hK _ _ hn)
/-- Sections in blocks, above a world. -/
def FS (w : World) (l : List (Nat × Sc)) (W : World) : Prop := (∀ x ∈ l, QB W x.1 x.2) ∧ Below w.heap.size w W
section
variable {w W W' : World} {l : List (Nat × Sc)}
theorem FS.keep (h : FS w l W) (hb : Below W.heap.size W W') : FS w l W' := ⟨fun x hx => (hb.block _ (Array.getElem?_eq_some_iff.1 (h.1 x hx)).1).trans (h.1 x hx), h.2.trans (hb.mono h.2.size)⟩
theorem FS.drew (h : FS w l W) : FS w l W.drew := h.keep (Below.refl _ W).drew
theorem FS.alloc (h : FS w l W) (o : Obj) : FS w l (W.alloc o) := h.keep ((Below.refl _ _).alloc (Nat.le_refl _) o)
theorem FS.box (h : FS w l W) (s : Sc) : FS w ((W.heap.size, s) :: l) (W.alloc (.cells s.cs.toArray 54)) := by
  have hk := h.alloc (.cells s.cs.toArray 54)
  refine ⟨fun x hx => ?_, hk.2⟩
  rcases List.mem_cons.1 hx with rfl | hx
  · exact heap_alloc_last W _
  · exact hk.1 x hx
theorem FS.lt (h : FS w l W) : ∀ x ∈ l, x.1 < W.heap.size := fun x hx => (Array.getElem?_eq_some_iff.1 (h.1 x hx)).1
theorem FS.row {b : Nat} {u : Sc} (h : FS w ((b, u) :: l) W) (hne : ∀ x ∈ l, x.1 ≠ b) (hb : w.heap.size ≤ b) (s : Sc) : FS w ((b, s) :: l) (W.setRow b s.cs.toArray) := by
  refine ⟨fun x hx => ?_, below_row' h.2 hb⟩
  rcases List.mem_cons.1 hx with rfl | hx
  · exact setRow_heap W b _ s.cs.toArray 54 (0, 0) (h.1 (b, u) (List.mem_cons_self ..))
  · exact (setRow_other _ _ _ _ (hne x hx)).trans (h.1 x (List.mem_cons_of_mem _ hx))
theorem FS.set {b : Nat} {u : Sc} (h : FS w ((b, u) :: l) W) (hne : ∀ x ∈ l, x.1 ≠ b) (hb : w.heap.size ≤ b) (i : Nat) (v : Value) (s : Sc) (hs : s.cs.toArray = u.cs.toArray.setIfInBounds i v) : FS w ((b, s) :: l) (W.setCell ⟨b, i, none⟩ v) := by
  have hq := h.1 (b, u) (List.mem_cons_self ..)
  rw [setCell_eq_setRow W b i _ _ (0, 0) v hq, ← hs]
  exact h.row hne hb s
theorem FS.less {l' : List (Nat × Sc)} (h : FS w l W) (hl : ∀ x ∈ l', x ∈ l) : FS w l' W := ⟨fun x hx => h.1 x (hl x hx), h.2⟩
theorem FS.get (h : FS w l W) (b : Nat) (s : Sc) (hx : (b, s) ∈ l) : QB W b s := h.1 (b, s) hx
end
theorem rx_three (W : World) (x y : Sc) : RX (W.alloc (.cells #[.int .u32 0, .int .u64 0, .int .u64 0, .int .u32 0, .int .u64 0, .int .u32 (x.1 : Nat), .int .u64 (x.2.1 : Nat), .int .u64 (x.2.2.1 : Nat), .int .u32 (x.2.2.2.1 : Nat), .int .u64 (x.2.2.2.2 : Nat), .int .u32 (y.1 : Nat), .int .u64 (y.2.1 : Nat), .int .u64 (y.2.2.1 : Nat), .int .u32 (y.2.2.2.1 : Nat), .int .u64 (y.2.2.2.2 : Nat)] 54)) (some ⟨W.heap.size, 0, none⟩) (([(0, 0, 0, 0, 0), x, y] : List Sc).flatMap Sc.cs) := fun _ => ⟨W.heap.size, 0, rfl, fun j u hu => by
  rw [Nat.zero_add]
  exact cell_at (heap_alloc_last W _) (by simpa [Sc.cs] using hu)⟩
end Go.Proofs.Ytegbhjmghkbgmaa
