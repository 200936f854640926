/- CodesBytes: what its walk keeps. -/
import Derived.Test.YtaeehinlgmijgaaDoorOw
import Derived.SliceStrings
import Derived.Lib.LazyBuf
import Derived.Deep.Upon
namespace Go.Proofs.YtaeehinlgmijgaaDoor
open Go.RowKit Go.Shelf
set_option linter.unusedVariables false
set_option linter.unusedSimpArgs false
attribute [local go_sem] Oper.semAt_some
/-- These bytes in a block of their own. -/
def BC (W : World) (g : Nat) (l : List Nat) : Prop := W.heap[g]? = some (.cells (bCells l) 5 (0, 0))
theorem BC.at {W : World} {g : Nat} {l : List Nat} (h : BC W g l) (j : Nat) (hj : j < l.length) : W.cell? ⟨g, j, none⟩ = some (.int .u8 ((l.getD j 0 : Nat) : Int)) := by
  have h' : W.heap[g]? = some (.cells (bCells l) 5 (0, 0)) := h
  simp [World.cell?, h', bCells, hj, List.getD]
theorem BC.fro {W : World} {g : Nat} {l : List Nat} (h : BC W g l) (j : Nat) : W.frozen? ⟨g, j, none⟩ = false := by
  have h' : W.heap[g]? = some (.cells (bCells l) 5 (0, 0)) := h
  simp [World.frozen?, h']
theorem BC.keep {W W' : World} {g : Nat} {l : List Nat} (h : BC W g l) (hb : Below W.heap.size W W') : BC W' g l := (hb.block g (Array.getElem?_eq_some_iff.1 h).1).trans h
theorem BC.lt {W : World} {g : Nat} {l : List Nat} (h : BC W g l) : g < W.heap.size := (Array.getElem?_eq_some_iff.1 h).1
def manyC : Array Value := #[.int .i64 1, .int .i64 2, .int .i64 3, .int .i64 3]
def MC (W : World) (q : Nat) : Prop := W.heap[q]? = some (.cells manyC 36 (0, 0))
theorem MC.at {W : World} {q : Nat} (h : MC W q) (j : Nat) (v : Value) (hv : manyC[j]? = some v) : W.cell? ⟨q, j, none⟩ = some v := by
  have h' : W.heap[q]? = some (.cells manyC 36 (0, 0)) := h
  simp [World.cell?, h', hv]
theorem MC.keep {W W' : World} {q : Nat} (h : MC W q) (hb : Below W.heap.size W W') : MC W' q := (hb.block q (Array.getElem?_eq_some_iff.1 h).1).trans h
def strB (l : List Nat) : ByteArray := ⟨(l.map UInt8.ofNat).toArray⟩
theorem str_run (W : World) (g cap : Nat) (l : List Nat) (hl : ∀ x ∈ l, x < 256) (h : BC W g l) : (convert 30 9 (.slice (some ⟨g, 0, none⟩) l.length cap)).run Tryd.prog W = .ok (.string (strB l)) W := by
  have h := run_convert_bytes_back (P := Tryd.prog) W 30 9 5 ⟨g, 0, none⟩ cap (l.map UInt8.ofNat) Tryd.underlying30 Tryd.underlying5 Tryd.underlying9 (fun j hj => by
    have hj3 : j < l.length := by simpa using hj
    rw [Addr.add_lit, Nat.zero_add, h.at j hj3]
    have hx := hl l[j] (List.getElem_mem hj3)
    have : (UInt8.ofNat l[j]).toNat = l[j] := by simp; omega
    simp [List.getD, hj3, this])
  simp only [List.length_map] at h
  exact h
theorem exec_conv {o : Oper} {ρ : Operand → Value} {W : World} {x : Operand} {g cap n : Nat} {l : List Nat} (ho : o.op = .convert 30 9 x) (hx : ρ x = .slice (some ⟨g, 0, none⟩) n cap) (hn : n = l.length) (hl : ∀ x ∈ l, x < 256) (h : BC W g l) :
    (execOp ρ o).run Tryd.prog W = .ok (.value (.string (strB l))) W := by
  subst hn
  unfold execOp
  rw [ho]
  simp only [hx, Sem.run_bind, str_run W g cap l hl h, Result.andThen, Sem.run_pure]
theorem wpList_conv {ops : Array Oper} {Q : Exit → Act → World → Prop} {o : Oper} {rest : List Oper} {a : Act} {W : World} (x : Operand) (g cap n : Nat) (l : List Nat) (ho : o.op = .convert 30 9 x) (hw : Region.wanted o (yielded ops a.tmps) = true) (hx : a.eval x = .slice (some ⟨g, 0, none⟩) n cap) (hn' : n = l.length) (hl : ∀ x ∈ l, x < 256) (h : BC W g l)
    (hn : wpList Tryd.prog ops Q rest (a.put o.dst (.string (strB l))) W) : wpList Tryd.prog ops Q (o :: rest) a W := by
  have e := exec_conv (ρ := a.eval) ho hx hn' hl h
  unfold wpList
  rw [if_pos hw]
  refine .inl ?_
  unfold Oper.wp
  rw [e, Oper.upon_value]
  exact hn
theorem exec_loadF {o : Oper} {ρ : Operand → Value} {W : World} {x : Operand} {g k : Nat} {f : Fm} (ho : o.op = .load 23 x) (hx : ρ x = .pointer (some ⟨g, k * 14, none⟩)) (h : RF W g) (hk : k < 139) (hf : fAt k = f) :
    (execOp ρ o).run Tryd.prog W = .ok (.value f.v) W := by
  subst hf
  have e := run_loadAt_mid (P := Tryd.prog) W g (k * 14) 23 (fAt k).cs _ (h.at k hk) Tryd.underlying23 rfl (by rw [Fm.cs_len]; kernel_rfl)
  unfold execOp
  rw [ho]
  simp only [hx, Sem.run_bind, e, Result.andThen, Sem.run_pure]
  rfl
theorem wpList_loadFe {ops : Array Oper} {rest : List Oper} {op : Oper} {a : Act} {w : World} {Q : Exit → Act → World → Prop} (x : Operand) (ho : op.op = .load 23 x) (hw : Region.wanted op (yielded ops a.tmps) = true)
    (b o k : Nat) (f : Fm) (hx : a.eval x = .pointer (some ⟨b, o, none⟩)) (hg : RF w b) (hk : k < 139) (hok : o = k * 14) (hf : fAt k = f)
    (h : wpList Tryd.prog ops Q rest (a.put op.dst f.v) w) : wpList Tryd.prog ops Q (op :: rest) a w := by
  subst hf
  exact wpList_loadF x ho hw b o k hx hg hk hok h
theorem norm139 (a : Int) : ∃ k : Nat, k < 139 ∧ (wrap64 (Int.tmod a 139 + 139)).tmod 139 = (k : Int) := by
  have h1 : -139 < Int.tmod a 139 := by have := Int.lt_tmod_of_pos a (show (0 : Int) < 139 by decide); omega
  have h2 : Int.tmod a 139 < 139 := Int.tmod_lt_of_pos a (by decide)
  generalize Int.tmod a 139 = y at *
  have e : wrap64 (y + 139) = y + 139 := by unfold wrap64; omega
  rw [e, Int.tmod_eq_emod_of_nonneg (by omega)]
  exact ⟨((y + 139) % 139).toNat, by omega, by omega⟩
/-- What stands: forms in a row, one of them, its bytes, the lengths. -/
def BR (w : World) (g b1 gb q : Nat) (f : Fm) (l : List Nat) (W : World) : Prop := RF W g ∧ FB W b1 f ∧ BC W gb l ∧ MC W q ∧ GL W ∧ Below w.heap.size w W
theorem BR.drew {w W : World} {g b1 gb q : Nat} {f : Fm} {l : List Nat} (h : BR w g b1 gb q f l W) : BR w g b1 gb q f l W.drew := ⟨h.1, h.2.1, h.2.2.1, h.2.2.2.1, h.2.2.2.2.1, h.2.2.2.2.2.drew⟩
/-- Behind the changes: the form alone. -/
def FR1 (w : World) (b1 : Nat) (f : Fm) (W : World) : Prop := FB W b1 f ∧ GL W ∧ Below w.heap.size w W
theorem FR1.keep {w W W' : World} {b1 : Nat} {f : Fm} (h : FR1 w b1 f W) (hb : Below W.heap.size W W') : FR1 w b1 f W' := ⟨h.1.keep hb, h.2.1.below hb, h.2.2.trans (hb.mono h.2.2.size)⟩
theorem RF.there {W : World} {g : Nat} (h : RF W g) (k : Nat) (hk : k < 139) : W.there g (k * 14) 14 := by
  obtain ⟨cur, hh, ht⟩ := h
  intro j hj
  refine ⟨?_, by simp [World.frozen?, hh]⟩
  have hc := RF.at ⟨cur, hh, ht⟩ k hk j ((fAt k).cs[j]'(by rw [Fm.cs_len]; exact hj)) (by simp [Fm.cs_len, hj])
  rw [hc]
  rfl
theorem wpList_storeF {ops : Array Oper} {rest : List Oper} {op : Oper} {a : Act} {w : World} {Q : Exit → Act → World → Prop} (x y : Operand) (ho : op.op = .store 23 x y) (hg : op.guard = none)
    (b o k : Nat) (f : Fm) (hx : a.eval x = .pointer (some ⟨b, o, none⟩)) (hy : a.eval y = f.v) (hR : RF w b) (hk : k < 139) (hok : o = k * 14)
    (h : wpList Tryd.prog ops Q rest (a.put op.dst undef) (w.setCells b (k * 14) f.cs)) : wpList Tryd.prog ops Q (op :: rest) a w := by
  subst hok
  exact wpList_store_mid hg 23 x y ho b (k * 14) f.cs.toArray hx hy (by have := hR.there k hk; simpa [Fm.cs_len] using this) (by rw [Fm.size]; kernel_rfl) f.one h
theorem BR.cleared {w W : World} {g b1 gb q : Nat} {f : Fm} {l : List Nat} (h : BR w g b1 gb q f l W) (hg : w.heap.size ≤ g) (h1 : b1 ≠ g) (h2 : gb ≠ g) (o : Nat) (cs : List Value) (hw : 2 ≤ w.heap.size) :
    FB (W.setCells g o cs) b1 f ∧ BC (W.setCells g o cs) gb l ∧ GL (W.setCells g o cs) ∧ Below w.heap.size w (W.setCells g o cs) := by
  have hk : ∀ i, i < W.heap.size → i ≠ g → (W.setCells g o cs).heap[i]? = W.heap[i]? := fun i hi hn => World.heap_setCells_other W g o cs hi hn
  have hz := h.2.2.2.2.2.size
  exact ⟨(hk b1 h.2.1.lt h1).trans h.2.1, (hk gb h.2.2.1.lt h2).trans h.2.2.1, h.2.2.2.2.1.block (hk 0 (by omega) (by omega)) (hk 1 (by omega) (by omega)), below_setCells hg _ _ _ h.2.2.2.2.2⟩
theorem FR1.put {w W : World} {b1 gb : Nat} {f : Fm} (h : FR1 w b1 f W) (hg : w.heap.size ≤ gb) (h2 : gb ≠ b1) (hw : 2 ≤ w.heap.size) (v : Value) (o : Nat) : FR1 w b1 f (W.setCell ⟨gb, o, none⟩ v) :=
  ⟨(Below.heap_setCell W ⟨gb, o, none⟩ v b1 (fun e => h2 e.symm)).trans h.1, h.2.1.block (Below.heap_setCell W ⟨gb, o, none⟩ v 0 (show (0 : Nat) ≠ gb by omega)) (Below.heap_setCell W ⟨gb, o, none⟩ v 1 (show (1 : Nat) ≠ gb by omega)), h.2.2.setCell (by exact hg) _⟩
theorem FB.new (W : World) : FB (W.alloc (.cells zf.cs.toArray 23)) W.heap.size zf := heap_alloc_last W _
end Go.Proofs.YtaeehinlgmijgaaDoor
