/- Segments and sections in rows. -/
import Derived.DeepKeys
import Derived.Test.YtnaggdhophncaaaDoorRn
namespace Go.Proofs.YtnaggdhophncaaaDoor
open Go.RowKit Go.Shelf
set_option linter.unusedVariables false
set_option linter.unusedSimpArgs false
attribute [local go_sem] Oper.semAt_some
/-- Cells that can be read. -/
def RX (W : World) (ad : Option Addr) (L : List Value) : Prop := 0 < L.length → ∃ b off, ad = some ⟨b, off, none⟩ ∧ ∀ j u, L[j]? = some u → W.cell? ⟨b, off + j, none⟩ = some u
theorem RX.keep {W W' : World} {ad : Option Addr} {L : List Value} (h : RX W ad L) (hb : Below W.heap.size W W') : RX W' ad L := fun hl => by
  obtain ⟨b, off, ha, hc⟩ := h hl
  exact ⟨b, off, ha, fun j u hu => cell_keep (hc j u hu) hb⟩
theorem RX.own {W : World} {n0 : Nat} {ty : TypeId} {sz k : Nat} {a : Option Addr} {l p : Nat} {L : List Value} (h : W.ownsRow n0 ty sz (.slice a l p) k L) : RX W a L := fun hl => by
  rcases h.2 with ⟨e, h0⟩ | ⟨g, cap, cur, e, _⟩
  · have := h.1; rw [h0] at this; omega
  · cases e
    exact ⟨g, 0, rfl, fun j u hu => by have := h.cells (g := g) rfl j u hu; rwa [Addr.add_mid] at this⟩
theorem rx_bs {W : World} {ad : Option Addr} {f : Nat → Nat} {n : Nat} (h : RX W ad (rowB f n)) : BS W ad n f := fun hn => by
  obtain ⟨b, off, ha, hc⟩ := h (by rw [rowB_len]; exact hn)
  exact ⟨b, off, ha, fun j hj => hc j _ (rowB_at f n j hj)⟩
theorem bs_rx {W : World} {ad : Option Addr} {f : Nat → Nat} {n : Nat} (h : BS W ad n f) : RX W ad (rowB f n) := fun hl => by
  rw [rowB_len] at hl
  obtain ⟨b, off, ha, hc⟩ := h hl
  refine ⟨b, off, ha, fun j u hu => ?_⟩
  have hj := (List.getElem?_eq_some_iff.1 hu).1
  rw [rowB_len] at hj
  rw [rowB_at f n j hj] at hu
  cases hu
  exact hc j hj
theorem flat_len {α : Type} {c : α → List Value} {m : Nat} (hc : ∀ z, (c z).length = m) (zs : List α) : (zs.flatMap c).length = zs.length * m := by
  induction zs with
  | nil => simp
  | cons z zs ih => rw [List.flatMap_cons, List.length_append, ih, hc, List.length_cons, Nat.add_mul]; omega
theorem flat_at {α : Type} {c : α → List Value} {m : Nat} (hc : ∀ z, (c z).length = m) (zs : List α) (k i : Nat) (s : α) (hk : zs[k]? = some s) (hi : i < m) : (zs.flatMap c)[k * m + i]? = (c s)[i]? := by
  induction zs generalizing k with
  | nil => simp at hk
  | cons z zs ih =>
    rw [List.flatMap_cons]
    cases k with
    | zero =>
      simp only [List.getElem?_cons_zero, Option.some.injEq] at hk
      subst hk
      rw [Nat.zero_mul, Nat.zero_add, List.getElem?_append_left (by rw [hc]; exact hi)]
    | succ k =>
      rw [List.getElem?_cons_succ] at hk
      rw [List.getElem?_append_right (by rw [hc, Nat.succ_mul]; omega), hc, ← ih k hk]
      congr 1
      rw [Nat.succ_mul]
      omega
theorem lit_k (d x : Nat) (t : TypeId) (k : IntKind) (hu : Tryd.prog.underlying t = some (.int k)) (hw : (Lit.int k (x : Nat)).wf = true) : Tryd.prog.keyLits (d + 1) t [.int k (x : Nat)] = some [.int k (x : Nat)] := by
  unfold Program.keyLits
  rw [hu]
  simp [hw]
theorem wf32 {x : Nat} (h : V32 x) : (Lit.int .u32 (x : Nat)).wf = true := by
  unfold V32 at h
  unfold Lit.wf
  simp [IntKind.has, IntKind.min, IntKind.max, IntKind.bits, IntKind.signed]
  omega
theorem wf64 {x : Nat} (h : U x) : (Lit.int .u64 (x : Nat)).wf = true := by
  unfold U at h
  unfold Lit.wf
  simp [IntKind.has, IntKind.min, IntKind.max, IntKind.bits, IntKind.signed]
  omega
theorem cx28 : Tryd.prog.cellsOf 28 = 1 := by kernel_rfl
theorem cx23 : Tryd.prog.cellsOf 23 = 1 := by kernel_rfl
abbrev Sg := Nat × Nat × Nat × Nat × Nat × Nat × Nat
def Sg.cs (s : Sg) : List Value := [.int .u32 (s.1 : Nat), .int .u32 (s.2.1 : Nat), .int .u64 (s.2.2.1 : Nat), .int .u64 (s.2.2.2.1 : Nat), .int .u64 (s.2.2.2.2.1 : Nat), .int .u64 (s.2.2.2.2.2.1 : Nat), .int .u64 (s.2.2.2.2.2.2 : Nat)]
def Sg.v (s : Sg) : Value := .agg #[.int .u32 (s.1 : Nat), .int .u32 (s.2.1 : Nat), .int .u64 (s.2.2.1 : Nat), .int .u64 (s.2.2.2.1 : Nat), .int .u64 (s.2.2.2.2.1 : Nat), .int .u64 (s.2.2.2.2.2.1 : Nat), .int .u64 (s.2.2.2.2.2.2 : Nat)]
def Sg.f (s : Sg) : Nat → Nat := segF s.1 s.2.1 s.2.2.1 s.2.2.2.1 s.2.2.2.2.1 s.2.2.2.2.2.1 s.2.2.2.2.2.2
def Sg.ok (s : Sg) : Prop := V32 s.1 ∧ V32 s.2.1 ∧ U s.2.2.1 ∧ U s.2.2.2.1 ∧ U s.2.2.2.2.1 ∧ U s.2.2.2.2.2.1 ∧ U s.2.2.2.2.2.2
theorem Sg_len (s : Sg) : s.cs.length = 7 := rfl
theorem cellsT30 : Tryd.prog.cellsOf 30 = 7 := by kernel_rfl
theorem lits_Sg (s : Sg) (h : s.ok) : Tryd.prog.keyLits 2 30 s.cs = some [.int .u32 (s.1 : Nat), .int .u32 (s.2.1 : Nat), .int .u64 (s.2.2.1 : Nat), .int .u64 (s.2.2.2.1 : Nat), .int .u64 (s.2.2.2.2.1 : Nat), .int .u64 (s.2.2.2.2.2.1 : Nat), .int .u64 (s.2.2.2.2.2.2 : Nat)] := by
  obtain ⟨h0, h1, h2, h3, h4, h5, h6⟩ := h
  unfold Program.keyLits Sg.cs
  rw [Tryd.underlying30]
  simp [cx28, cx23, cellsT30, lit_k 0 s.1 28 .u32 Tryd.underlying28 (wf32 h0), lit_k 0 s.2.1 28 .u32 Tryd.underlying28 (wf32 h1), lit_k 0 s.2.2.1 23 .u64 Tryd.underlying23 (wf64 h2), lit_k 0 s.2.2.2.1 23 .u64 Tryd.underlying23 (wf64 h3), lit_k 0 s.2.2.2.2.1 23 .u64 Tryd.underlying23 (wf64 h4), lit_k 0 s.2.2.2.2.2.1 23 .u64 Tryd.underlying23 (wf64 h5), lit_k 0 s.2.2.2.2.2.2 23 .u64 Tryd.underlying23 (wf64 h6)]
theorem eq30 (s : Sg) (h : s.ok) (w : World) : (Op.equalIn 10000 30 s.v s.v).run Tryd.prog w = .ok true w := by
  obtain ⟨r, hr, h3⟩ := run_equalIn_deep (P := Tryd.prog) 9998 2 30 (by kernel_rfl) w 7 7 s.v s.v _ _ (by kernel_rfl) (by kernel_rfl) (lits_Sg s h) (lits_Sg s h)
  rw [hr, show r = true from h3.2 rfl]
theorem guard30 (op : BinOp) (X Y : Operand) (f g : Sg) (W : World) : (eqGuard op 30 X Y f.v g.v).run Tryd.prog W = .ok () W := by
  cases op <;> kernel_rfl
theorem bin30_neq (f g : Sg) : binOp .neq 30 f.v g.v = (do pure (.bool (!(← Op.equal 30 f.v g.v)))) := by
  unfold Sg.v binOp
  rfl
theorem bin30_eql (f g : Sg) : binOp .eql 30 f.v g.v = (do pure (.bool (← Op.equal 30 f.v g.v))) := by
  unfold Sg.v binOp
  rfl
theorem exec_neq30 {o : Oper} {ρ : Operand → Value} {W : World} {X Y : Operand} {f : Sg} {ty : TypeId} (ho : o.op = .binOp .neq 30 X Y ty) (hx : ρ X = f.v) (hy : ρ Y = f.v) (hf : f.ok) :
    (execOp ρ o).run Tryd.prog W = .ok (.value (.bool false)) W := by
  unfold execOp
  rw [ho]
  have he' : (Op.equal 30 f.v f.v).run Tryd.prog W = .ok true W := eq30 f hf W
  simp only [hx, hy, Sem.run_bind, guard30, Result.andThen, bin30_neq, he', Sem.run_pure, Bool.not_true]
theorem exec_eql30 {o : Oper} {ρ : Operand → Value} {W : World} {X Y : Operand} {f : Sg} {ty : TypeId} (ho : o.op = .binOp .eql 30 X Y ty) (hx : ρ X = f.v) (hy : ρ Y = f.v) (hf : f.ok) :
    (execOp ρ o).run Tryd.prog W = .ok (.value (.bool true)) W := by
  unfold execOp
  rw [ho]
  have he' : (Op.equal 30 f.v f.v).run Tryd.prog W = .ok true W := eq30 f hf W
  simp only [hx, hy, Sem.run_bind, guard30, Result.andThen, bin30_eql, he', Sem.run_pure]
theorem Sg_at {W : World} {ad : Option Addr} {zs : List Sg} (h : RX W ad (zs.flatMap Sg.cs)) {k : Nat} {s : Sg} (hk : zs[k]? = some s) : ∃ b off, ad = some ⟨b, off, none⟩ ∧ W.cell? ⟨b, off + k * 7, none⟩ = some (.int .u32 (s.1 : Nat)) ∧ W.cell? ⟨b, off + k * 7 + 1, none⟩ = some (.int .u32 (s.2.1 : Nat)) ∧ W.cell? ⟨b, off + k * 7 + 2, none⟩ = some (.int .u64 (s.2.2.1 : Nat)) ∧ W.cell? ⟨b, off + k * 7 + 3, none⟩ = some (.int .u64 (s.2.2.2.1 : Nat)) ∧ W.cell? ⟨b, off + k * 7 + 4, none⟩ = some (.int .u64 (s.2.2.2.2.1 : Nat)) ∧ W.cell? ⟨b, off + k * 7 + 5, none⟩ = some (.int .u64 (s.2.2.2.2.2.1 : Nat)) ∧ W.cell? ⟨b, off + k * 7 + 6, none⟩ = some (.int .u64 (s.2.2.2.2.2.2 : Nat)) := by
  have hl := (List.getElem?_eq_some_iff.1 hk).1
  obtain ⟨b, off, ha, hc⟩ := h (by rw [flat_len Sg_len]; omega)
  have e : ∀ i, i < 7 → ∀ u, s.cs[i]? = some u → W.cell? ⟨b, off + k * 7 + i, none⟩ = some u := fun i hi u hu => by
    rw [Nat.add_assoc]
    exact hc _ _ ((flat_at Sg_len zs k i s hk hi).trans hu)
  exact ⟨b, off, ha, e 0 (by decide) _ rfl, e 1 (by decide) _ rfl, e 2 (by decide) _ rfl, e 3 (by decide) _ rfl, e 4 (by decide) _ rfl, e 5 (by decide) _ rfl, e 6 (by decide) _ rfl⟩
abbrev Sc := Nat × Nat × Nat × Nat × Nat
def Sc.cs (s : Sc) : List Value := [.int .u32 (s.1 : Nat), .int .u64 (s.2.1 : Nat), .int .u64 (s.2.2.1 : Nat), .int .u32 (s.2.2.2.1 : Nat), .int .u64 (s.2.2.2.2 : Nat)]
def Sc.v (s : Sc) : Value := .agg #[.int .u32 (s.1 : Nat), .int .u64 (s.2.1 : Nat), .int .u64 (s.2.2.1 : Nat), .int .u32 (s.2.2.2.1 : Nat), .int .u64 (s.2.2.2.2 : Nat)]
def Sc.f (s : Sc) : Nat → Nat := secF s.1 s.2.1 s.2.2.1 s.2.2.2.1 s.2.2.2.2
def Sc.ok (s : Sc) : Prop := V32 s.1 ∧ U s.2.1 ∧ U s.2.2.1 ∧ V32 s.2.2.2.1 ∧ U s.2.2.2.2
theorem Sc_len (s : Sc) : s.cs.length = 5 := rfl
theorem cellsT32 : Tryd.prog.cellsOf 32 = 5 := by kernel_rfl
theorem lits_Sc (s : Sc) (h : s.ok) : Tryd.prog.keyLits 2 32 s.cs = some [.int .u32 (s.1 : Nat), .int .u64 (s.2.1 : Nat), .int .u64 (s.2.2.1 : Nat), .int .u32 (s.2.2.2.1 : Nat), .int .u64 (s.2.2.2.2 : Nat)] := by
  obtain ⟨h0, h1, h2, h3, h4⟩ := h
  unfold Program.keyLits Sc.cs
  rw [Tryd.underlying32]
  simp [cx28, cx23, cellsT32, lit_k 0 s.1 28 .u32 Tryd.underlying28 (wf32 h0), lit_k 0 s.2.1 23 .u64 Tryd.underlying23 (wf64 h1), lit_k 0 s.2.2.1 23 .u64 Tryd.underlying23 (wf64 h2), lit_k 0 s.2.2.2.1 28 .u32 Tryd.underlying28 (wf32 h3), lit_k 0 s.2.2.2.2 23 .u64 Tryd.underlying23 (wf64 h4)]
theorem eq32 (s : Sc) (h : s.ok) (w : World) : (Op.equalIn 10000 32 s.v s.v).run Tryd.prog w = .ok true w := by
  obtain ⟨r, hr, h3⟩ := run_equalIn_deep (P := Tryd.prog) 9998 2 32 (by kernel_rfl) w 5 5 s.v s.v _ _ (by kernel_rfl) (by kernel_rfl) (lits_Sc s h) (lits_Sc s h)
  rw [hr, show r = true from h3.2 rfl]
theorem guard32 (op : BinOp) (X Y : Operand) (f g : Sc) (W : World) : (eqGuard op 32 X Y f.v g.v).run Tryd.prog W = .ok () W := by
  cases op <;> kernel_rfl
theorem bin32_neq (f g : Sc) : binOp .neq 32 f.v g.v = (do pure (.bool (!(← Op.equal 32 f.v g.v)))) := by
  unfold Sc.v binOp
  rfl
theorem bin32_eql (f g : Sc) : binOp .eql 32 f.v g.v = (do pure (.bool (← Op.equal 32 f.v g.v))) := by
  unfold Sc.v binOp
  rfl
theorem exec_neq32 {o : Oper} {ρ : Operand → Value} {W : World} {X Y : Operand} {f : Sc} {ty : TypeId} (ho : o.op = .binOp .neq 32 X Y ty) (hx : ρ X = f.v) (hy : ρ Y = f.v) (hf : f.ok) :
    (execOp ρ o).run Tryd.prog W = .ok (.value (.bool false)) W := by
  unfold execOp
  rw [ho]
  have he' : (Op.equal 32 f.v f.v).run Tryd.prog W = .ok true W := eq32 f hf W
  simp only [hx, hy, Sem.run_bind, guard32, Result.andThen, bin32_neq, he', Sem.run_pure, Bool.not_true]
theorem exec_eql32 {o : Oper} {ρ : Operand → Value} {W : World} {X Y : Operand} {f : Sc} {ty : TypeId} (ho : o.op = .binOp .eql 32 X Y ty) (hx : ρ X = f.v) (hy : ρ Y = f.v) (hf : f.ok) :
    (execOp ρ o).run Tryd.prog W = .ok (.value (.bool true)) W := by
  unfold execOp
  rw [ho]
  have he' : (Op.equal 32 f.v f.v).run Tryd.prog W = .ok true W := eq32 f hf W
  simp only [hx, hy, Sem.run_bind, guard32, Result.andThen, bin32_eql, he', Sem.run_pure]
theorem Sc_at {W : World} {ad : Option Addr} {zs : List Sc} (h : RX W ad (zs.flatMap Sc.cs)) {k : Nat} {s : Sc} (hk : zs[k]? = some s) : ∃ b off, ad = some ⟨b, off, none⟩ ∧ W.cell? ⟨b, off + k * 5, none⟩ = some (.int .u32 (s.1 : Nat)) ∧ W.cell? ⟨b, off + k * 5 + 1, none⟩ = some (.int .u64 (s.2.1 : Nat)) ∧ W.cell? ⟨b, off + k * 5 + 2, none⟩ = some (.int .u64 (s.2.2.1 : Nat)) ∧ W.cell? ⟨b, off + k * 5 + 3, none⟩ = some (.int .u32 (s.2.2.2.1 : Nat)) ∧ W.cell? ⟨b, off + k * 5 + 4, none⟩ = some (.int .u64 (s.2.2.2.2 : Nat)) := by
  have hl := (List.getElem?_eq_some_iff.1 hk).1
  obtain ⟨b, off, ha, hc⟩ := h (by rw [flat_len Sc_len]; omega)
  have e : ∀ i, i < 5 → ∀ u, s.cs[i]? = some u → W.cell? ⟨b, off + k * 5 + i, none⟩ = some u := fun i hi u hu => by
    rw [Nat.add_assoc]
    exact hc _ _ ((flat_at Sc_len zs k i s hk hi).trans hu)
  exact ⟨b, off, ha, e 0 (by decide) _ rfl, e 1 (by decide) _ rfl, e 2 (by decide) _ rfl, e 3 (by decide) _ rfl, e 4 (by decide) _ rfl⟩
end Go.Proofs.YtnaggdhophncaaaDoor
