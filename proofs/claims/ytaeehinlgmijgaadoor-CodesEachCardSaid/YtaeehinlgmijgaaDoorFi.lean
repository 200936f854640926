/- codes.Find. -/
import Derived.Test.YtaeehinlgmijgaaDoorDi
import Derived.WalkMore
namespace Go.Proofs.YtaeehinlgmijgaaDoor
open Go.RowKit Go.Shelf
set_option linter.unusedVariables false
set_option linter.unusedSimpArgs false
attribute [local go_sem] Oper.semAt_some
/-- What Find's loop keeps. -/
structure FI (w : World) (p m o : Nat) (d : Int) (f : Fm) (r : Bool) (W : World) : Prop where
  h0 : W.heap[w.heap.size]? = some (.cells #[.int .u8 (p : Nat)] 5 (0, 0))
  h1 : W.heap[w.heap.size + 1]? = some (.cells #[.int .u8 (m : Nat)] 5 (0, 0))
  h2 : W.heap[w.heap.size + 1 + 1]? = some (.cells #[.int .u8 (o : Nat)] 5 (0, 0))
  h3 : W.heap[w.heap.size + 1 + 1 + 1]? = some (.cells #[.int .i64 d] 3 (0, 0))
  h4 : W.heap[w.heap.size + 1 + 1 + 1 + 1]? = some (.cells zf.cs.toArray 23 (0, 0))
  h5 : W.heap[w.heap.size + 1 + 1 + 1 + 1 + 1]? = some (.cells f.cs.toArray 23 (0, 0))
  h6 : W.heap[w.heap.size + 1 + 1 + 1 + 1 + 1 + 1]? = some (.cells #[.bool r] 4 (0, 0))
  b : Below w.heap.size w W
theorem wpList_store23 {ops : Array Oper} {Q : Exit → Act → World → Prop} {o : Oper} {rest : List Oper} {a : Act} {W : World} {x y : Operand} {b : Nat} {u f : Fm}
    (ho : o.op = .store 23 x y) (hg : o.guard = none) (hx : a.eval x = .pointer (some ⟨b, 0, none⟩)) (hy : a.eval y = f.v) (h : FB W b u)
    (hn : wpList Tryd.prog ops Q rest (a.put o.dst undef) (W.setRow b f.cs.toArray)) : wpList Tryd.prog ops Q (o :: rest) a W := by
  refine wpList_plain hg fun K hK => ?_
  have e : (execOp a.eval o).run Tryd.prog W = .ok .skip (W.setRow b f.cs.toArray) := by
    unfold execOp
    rw [ho]
    simp only [hx, hy, Instr.storeAt, Instr.sureAddr, Sem.run_bind, Sem.run_pure, Result.andThen, store23_run h]
  unfold Oper.wp
  rw [e, Oper.upon_skip]
  exact hK _ _ hn
theorem exec_load23 {o : Oper} {ρ : Operand → Value} {W : World} {x : Operand} {b : Nat} {f : Fm} (ho : o.op = .load 23 x) (hx : ρ x = .pointer (some ⟨b, 0, none⟩)) (h : FB W b f) :
    (execOp ρ o).run Tryd.prog W = .ok (.value f.v) W := by
  unfold execOp
  rw [ho]
  simp only [hx, Instr.loadAt, Instr.sureAddr, Sem.run_bind, Sem.run_pure, Result.andThen, load23_run h]
theorem wp_store23 {o : Oper} {a : Act} {W : World} {K : Act → World → Prop} {Q : Exit → Act → World → Prop} {x y : Operand} {b : Nat} {u f : Fm} (ho : o.op = .store 23 x y) (hx : a.eval x = .pointer (some ⟨b, 0, none⟩)) (hy : a.eval y = f.v) (h : FB W b u)
    (hK : K (a.put o.dst undef) (W.setRow b f.cs.toArray)) : Oper.wp Tryd.prog o a W K Q := by
  have e : (execOp a.eval o).run Tryd.prog W = .ok .skip (W.setRow b f.cs.toArray) := by
    unfold execOp
    rw [ho]
    simp only [hx, hy, Instr.storeAt, Instr.sureAddr, Sem.run_bind, Sem.run_pure, Result.andThen, store23_run h]
  unfold Oper.wp
  rw [e, Oper.upon_skip]
  exact hK
/-- What Find's end keeps. -/
def FR (w : World) (D : Nat) (f : Fm) (r : Bool) (W : World) : Prop := (∃ g, FB W (w.heap.size + 1 + 1 + 1 + 1) g) ∧ FB W (w.heap.size + 1 + 1 + 1 + 1 + 1) f ∧ W.heap[w.heap.size + 1 + 1 + 1 + 1 + 1 + 1]? = some (.cells #[.bool r] 4 (0, 0)) ∧ Below w.heap.size w W ∧ W.heap[D]? = some (.deferred (some []))
theorem FR.drew {w W : World} {D : Nat} {f : Fm} {r : Bool} (h : FR w D f r W) : FR w D f r W.drew := ⟨h.1, h.2.1, h.2.2.1, h.2.2.2.1.drew, h.2.2.2.2⟩
theorem FR.c {w W : World} {D : Nat} {f : Fm} {r : Bool} (h : FR w D f r W) : W.cell? ⟨w.heap.size + 1 + 1 + 1 + 1 + 1 + 1, 0, none⟩ = some (.bool r) := by
  have h6 := h.2.2.1
  simp [World.cell?, h6]
theorem FR.res {w W : World} {D : Nat} {f : Fm} {r : Bool} (h : FR w D f r W) (hD : w.heap.size + 1 + 1 + 1 + 1 + 1 + 1 < D) : FR w D f r (W.setRow (w.heap.size + 1 + 1 + 1 + 1) f.cs.toArray) ∧ FB (W.setRow (w.heap.size + 1 + 1 + 1 + 1) f.cs.toArray) (w.heap.size + 1 + 1 + 1 + 1) f := by
  obtain ⟨⟨g, h1⟩, h2, h3, h4, h5⟩ := h
  exact ⟨⟨⟨f, h1.row⟩, (setRow_other (by omega)).trans h2, (setRow_other (by omega)).trans h3, below_row h4 (by omega), (setRow_other (by omega)).trans h5⟩, h1.row⟩
theorem FI.own (w : World) (p m o : Nat) (d : Int) (f : Fm) (r : Bool) (B : Nat) (hB : w.heap.size ≤ B) : OwnFrom B (fun (_ : List Fm) => FI w p m o d f r) := fun s X Y row hs hg hr =>
  ⟨ownFrom_block B _ (fun (_ : List Fm) => #[.int .u8 (p : Nat)]) 5 s X Y row hs.h0 hg hr, ownFrom_block B _ (fun (_ : List Fm) => #[.int .u8 (m : Nat)]) 5 s X Y row hs.h1 hg hr, ownFrom_block B _ (fun (_ : List Fm) => #[.int .u8 (o : Nat)]) 5 s X Y row hs.h2 hg hr, ownFrom_block B _ (fun (_ : List Fm) => #[.int .i64 d]) 3 s X Y row hs.h3 hg hr, ownFrom_block B _ (fun (_ : List Fm) => zf.cs.toArray) 23 s X Y row hs.h4 hg hr, ownFrom_block B _ (fun (_ : List Fm) => f.cs.toArray) 23 s X Y row hs.h5 hg hr, ownFrom_block B _ (fun (_ : List Fm) => #[.bool r]) 4 s X Y row hs.h6 hg hr, ownFrom_below (Nat.le_refl _) hB s X Y row hs.b hg hr⟩
theorem FI.lt {w W : World} {p m o : Nat} {d : Int} {f : Fm} {r : Bool} (h : FI w p m o d f r W) : w.heap.size + 1 + 1 + 1 + 1 + 1 + 1 < W.heap.size := (Array.getElem?_eq_some_iff.1 h.h6).1
theorem FI.keep {w W W' : World} {p m o : Nat} {d : Int} {f : Fm} {r : Bool} (h : FI w p m o d f r W) (hb : Below W.heap.size W W') : FI w p m o d f r W' := by
  have hl := h.lt
  exact ⟨(hb.block _ (by omega)).trans h.h0, (hb.block _ (by omega)).trans h.h1, (hb.block _ (by omega)).trans h.h2, (hb.block _ (by omega)).trans h.h3, (hb.block _ (by omega)).trans h.h4, (hb.block _ (by omega)).trans h.h5, (hb.block _ (by omega)).trans h.h6, h.b.trans (hb.mono (by omega))⟩
theorem FI.drew {w W : World} {p m o : Nat} {d : Int} {f : Fm} {r : Bool} (h : FI w p m o d f r W) : FI w p m o d f r W.drew := ⟨h.h0, h.h1, h.h2, h.h3, h.h4, h.h5, h.h6, h.b.drew⟩
theorem FI.found {w W : World} {p m o : Nat} {d : Int} {f : Fm} {r : Bool} (g : Fm) (h : FI w p m o d f r W) : FI w p m o d g r (W.setRow (w.heap.size + 1 + 1 + 1 + 1 + 1) g.cs.toArray) :=
  ⟨(setRow_other (by omega)).trans h.h0, (setRow_other (by omega)).trans h.h1, (setRow_other (by omega)).trans h.h2, (setRow_other (by omega)).trans h.h3, (setRow_other (by omega)).trans h.h4, FB.row h.h5, (setRow_other (by omega)).trans h.h6, below_row h.b (by omega)⟩
theorem FI.ok {w W : World} {p m o : Nat} {d : Int} {f : Fm} {r : Bool} (q : Bool) (h : FI w p m o d f r W) : FI w p m o d f q (W.setCell ⟨w.heap.size + 1 + 1 + 1 + 1 + 1 + 1, 0, none⟩ (.bool q)) := by
  have hs : ∀ k, k ≠ w.heap.size + 1 + 1 + 1 + 1 + 1 + 1 → (W.setCell ⟨w.heap.size + 1 + 1 + 1 + 1 + 1 + 1, 0, none⟩ (.bool q)).heap[k]? = W.heap[k]? := fun k hk => Below.heap_setCell W _ _ k hk
  exact ⟨(hs _ (by omega)).trans h.h0, (hs _ (by omega)).trans h.h1, (hs _ (by omega)).trans h.h2, (hs _ (by omega)).trans h.h3, (hs _ (by omega)).trans h.h4, (hs _ (by omega)).trans h.h5, Boxed.set (t := 4) _ h.h6, h.b.setCell (p := ⟨w.heap.size + 1 + 1 + 1 + 1 + 1 + 1, 0, none⟩) (by dsimp only; omega) _⟩
theorem FI.c {w W : World} {p m o : Nat} {d : Int} {f : Fm} {r : Bool} (h : FI w p m o d f r W) : W.cell? ⟨w.heap.size, 0, none⟩ = some (.int .u8 (p : Nat)) ∧ W.cell? ⟨w.heap.size + 1, 0, none⟩ = some (.int .u8 (m : Nat)) ∧ W.cell? ⟨w.heap.size + 1 + 1, 0, none⟩ = some (.int .u8 (o : Nat)) ∧ W.cell? ⟨w.heap.size + 1 + 1 + 1, 0, none⟩ = some (.int .i64 d) ∧ W.cell? ⟨w.heap.size + 1 + 1 + 1 + 1 + 1 + 1, 0, none⟩ = some (.bool r) := by
  obtain ⟨h0, h1, h2, h3, h4, h5, h6, hb⟩ := h
  exact ⟨by simp [World.cell?, h0], by simp [World.cell?, h1], by simp [World.cell?, h2], by simp [World.cell?, h3], by simp [World.cell?, h6]⟩
theorem FI.f6 {w W : World} {p m o : Nat} {d : Int} {f : Fm} {r : Bool} (h : FI w p m o d f r W) : W.frozen? ⟨w.heap.size + 1 + 1 + 1 + 1 + 1 + 1, 0, none⟩ = false := by
  obtain ⟨h0, h1, h2, h3, h4, h5, h6, hb⟩ := h
  simp [World.frozen?, h6]
theorem FI.new (w : World) (p m o : Nat) (d : Int) : FI w p m o d zf false (((((((w.alloc (.cells #[.int .u8 (p : Nat)] 5)).alloc (.cells #[.int .u8 (m : Nat)] 5)).alloc (.cells #[.int .u8 (o : Nat)] 5)).alloc (.cells #[.int .i64 d] 3)).alloc (.cells zf.cs.toArray 23)).alloc (.cells zf.cs.toArray 23)).alloc (.cells #[.bool false] 4)) := by
  have h0 := heap_alloc_last w (.cells #[.int .u8 (p : Nat)] 5)
  have h1 := heap_alloc_last (w.alloc (.cells #[.int .u8 (p : Nat)] 5)) (.cells #[.int .u8 (m : Nat)] 5)
  have h2 := heap_alloc_last ((w.alloc (.cells #[.int .u8 (p : Nat)] 5)).alloc (.cells #[.int .u8 (m : Nat)] 5)) (.cells #[.int .u8 (o : Nat)] 5)
  have h3 := heap_alloc_last (((w.alloc (.cells #[.int .u8 (p : Nat)] 5)).alloc (.cells #[.int .u8 (m : Nat)] 5)).alloc (.cells #[.int .u8 (o : Nat)] 5)) (.cells #[.int .i64 d] 3)
  have h4 := heap_alloc_last ((((w.alloc (.cells #[.int .u8 (p : Nat)] 5)).alloc (.cells #[.int .u8 (m : Nat)] 5)).alloc (.cells #[.int .u8 (o : Nat)] 5)).alloc (.cells #[.int .i64 d] 3)) (.cells zf.cs.toArray 23)
  have h5 := heap_alloc_last (((((w.alloc (.cells #[.int .u8 (p : Nat)] 5)).alloc (.cells #[.int .u8 (m : Nat)] 5)).alloc (.cells #[.int .u8 (o : Nat)] 5)).alloc (.cells #[.int .i64 d] 3)).alloc (.cells zf.cs.toArray 23)) (.cells zf.cs.toArray 23)
  have h6 := heap_alloc_last ((((((w.alloc (.cells #[.int .u8 (p : Nat)] 5)).alloc (.cells #[.int .u8 (m : Nat)] 5)).alloc (.cells #[.int .u8 (o : Nat)] 5)).alloc (.cells #[.int .i64 d] 3)).alloc (.cells zf.cs.toArray 23)).alloc (.cells zf.cs.toArray 23)) (.cells #[.bool false] 4)
  simp only [World.size_alloc] at h1 h2 h3 h4 h5 h6
  refine ⟨?_, ?_, ?_, ?_, ?_, ?_, h6, ?_⟩
  · exact ((((((((Below.refl (w.heap.size + 1) _).alloc (by simp [World.size_alloc] <;> omega) _).alloc (by simp [World.size_alloc] <;> omega) _).alloc (by simp [World.size_alloc] <;> omega) _).alloc (by simp [World.size_alloc] <;> omega) _).alloc (by simp [World.size_alloc] <;> omega) _).alloc (by simp [World.size_alloc] <;> omega) _).block _ (by omega)).trans h0
  · exact (((((((Below.refl (w.heap.size + 1 + 1) _).alloc (by simp [World.size_alloc] <;> omega) _).alloc (by simp [World.size_alloc] <;> omega) _).alloc (by simp [World.size_alloc] <;> omega) _).alloc (by simp [World.size_alloc] <;> omega) _).alloc (by simp [World.size_alloc] <;> omega) _).block _ (by omega)).trans h1
  · exact ((((((Below.refl (w.heap.size + 1 + 1 + 1) _).alloc (by simp [World.size_alloc] <;> omega) _).alloc (by simp [World.size_alloc] <;> omega) _).alloc (by simp [World.size_alloc] <;> omega) _).alloc (by simp [World.size_alloc] <;> omega) _).block _ (by omega)).trans h2
  · exact (((((Below.refl (w.heap.size + 1 + 1 + 1 + 1) _).alloc (by simp [World.size_alloc] <;> omega) _).alloc (by simp [World.size_alloc] <;> omega) _).alloc (by simp [World.size_alloc] <;> omega) _).block _ (by omega)).trans h3
  · exact ((((Below.refl (w.heap.size + 1 + 1 + 1 + 1 + 1) _).alloc (by simp [World.size_alloc] <;> omega) _).alloc (by simp [World.size_alloc] <;> omega) _).block _ (by omega)).trans h4
  · exact (((Below.refl (w.heap.size + 1 + 1 + 1 + 1 + 1 + 1) _).alloc (by simp [World.size_alloc] <;> omega) _).block _ (by omega)).trans h5
  · exact (((((((Below.refl (w.heap.size) _).alloc (by simp [World.size_alloc] <;> omega) _).alloc (by simp [World.size_alloc] <;> omega) _).alloc (by simp [World.size_alloc] <;> omega) _).alloc (by simp [World.size_alloc] <;> omega) _).alloc (by simp [World.size_alloc] <;> omega) _).alloc (by simp [World.size_alloc] <;> omega) _).alloc (by simp [World.size_alloc] <;> omega) _
def FT (w : World) (p m o : Nat) (d : Int) (x : Fm) (b1 : Nat) : Act := { tmps := #[.int .u8 (p : Nat), .int .u8 (m : Nat), .int .u8 (o : Nat), .int .i64 d, .pointer (some ⟨w.heap.size, 0, none⟩), .pointer (some ⟨w.heap.size + 1, 0, none⟩), .pointer (some ⟨w.heap.size + 1 + 1, 0, none⟩), .pointer (some ⟨w.heap.size + 1 + 1 + 1, 0, none⟩), .pointer (some ⟨w.heap.size + 1 + 1 + 1 + 1, 0, none⟩), .bool false, .pointer (some ⟨w.heap.size + 1 + 1 + 1 + 1 + 1, 0, none⟩), .pointer (some ⟨w.heap.size + 1 + 1 + 1 + 1 + 1 + 1, 0, none⟩), .pointer (some ⟨b1, 0, none⟩), zf.v, .func (.func 28) #[] #[], x.v, undef, undef, undef, undef, undef, undef, undef, undef, undef], defers := [] }
theorem res10 {W : World} {b : Nat} {f : Fm} {r : Bool} {tm : Array Value} (hp : tm.getD 8 undef = .pointer (some ⟨b, 0, none⟩)) (hr : tm.getD 9 undef = .bool r) (h : FB W b f) : (results Tryd.f10 tm).run Tryd.prog W = .ok (.tuple #[f.v, .bool r]) W := by
  rw [results_cell_tmp (fn := Tryd.f10) (p := 8) (u := 9) (ty := 23) rfl, hp, hr]
  simp [asAddr, load23_run h, Result.andThen]
/-- The first form that fits. -/
def findR (h : Fm → Bool) : Fm × Bool := match formsL.find? h with
  | some f => (f, true)
  | none => (zf, false)
theorem find_none {h : Fm → Bool} (ha : formsL.any h = false) : findR h = (zf, false) := by
  have : formsL.find? h = none := by rw [List.find?_eq_none]; intro x hx hh; have := List.any_eq_false.1 ha x hx; exact this hh
  unfold findR; rw [this]
theorem find_some {h : Fm → Bool} {q : List Fm} {x : Fm} (ha : q.any h = false) (hx : h x = true) (hp : q ++ [x] <+: formsL) : findR h = (x, true) := by
  obtain ⟨r, hr⟩ := hp
  have hq : q.find? h = none := by rw [List.find?_eq_none]; intro y hy hh; exact List.any_eq_false.1 ha y hy hh
  have : formsL.find? h = some x := by rw [← hr, List.append_assoc, List.find?_append, hq]; simp [hx]
  unfold findR; rw [this]
theorem keeps_row {W : World} {B b : Nat} (c : Array Value) (hb : b < B) : KeepsFrom B W (W.setRow b c) :=
  KeepsFrom.of_grownBy (row := some b) ⟨rfl, rfl, rfl, by simp [World.setRow], fun k _ hk => setRow_other (fun e => hk (by rw [e]))⟩ (fun j e => by cases e; exact hb)
set_option maxRecDepth 100000 in
set_option maxHeartbeats 4000000 in
theorem find_in (F : Fence) (HF : Hid (F = Fence.wide)) (n : Nat) (hn : 5 ≤ n) (p m o : Nat) (d : Int) (w : World) (hG : GL w) :
    CallsIn F n Tryd.prog 10 #[.int .u8 (p : Nat), .int .u8 (m : Nat), .int .u8 (o : Nat), .int .i64 d] w fun e W' => e = .returned (.tuple #[(findR (fun f => fitsZ f p m o d)).1.v, .bool (findR (fun f => fitsZ f p m o d)).2]) ∧ Below w.heap.size w W' := by
  have h1 : 1 ≤ n := by omega
  have hro : F.round = none := by rw [HF.out]; rfl
  have h10 : F.fn 10 := by rw [HF.out]; trivial
  have h20 : F.fn 20 := by rw [HF.out]; trivial
  have h12 : F.fn 12 := by rw [HF.out]; trivial
  have h28 : F.fn 28 := by rw [HF.out]; trivial
  have HN := Lib.hid (FI.new w p m o d)
  have HL := Lib.hid hG.lt
  have HG := Lib.hid hG
  have HS := fun (x : Fm) (W : World) => Lib.hid (fits_any x p m o d W)
  clear hG
  refine callsIn_of_wp_marks Tryd.func10 rfl h10 ?_ hro
  simp only [Tryd.ntmps10, List.size_toArray, List.length_cons, List.length_nil, Nat.reduceAdd, Nat.reduceSub, Array.replicate_succ, Array.replicate_zero, List.push_toArray, List.append_toArray, List.nil_append, List.cons_append]
  refine wpIn_of_wp HF ?_
  have hz : (#[.int .u8 0, .int .u8 0, .int .u8 0, .bool false, .int .i64 0, .int .u8 0, .int .u8 0, .int .i64 0, .int .u8 0, .int .i64 0, .bool false, .bool false, .bool false, .bool false] : Array Value) = zf.cs.toArray := rfl
  have HZ0 := Lib.hid hz
  clear hz
  go_wp2_with fail
  rw [HZ0.out]
  go_step3
  go_wp2_with fail
  rw [HZ0.out]
  go_step3
  go_wp2_with fail
  go_at_call 20
  (with_reducible refine (each_any _).mono ?_)
  rintro e w' ⟨rfl, rfl⟩
  go_wp2_with fail
  refine wp_of_wpIn HF n ?_
  have HG0 := Lib.hid (HG.out.below HN.out.b)
  have HZ : Hid (((((((((w.alloc (.cells #[.int .u8 (p : Nat)] 5)).alloc (.cells #[.int .u8 (m : Nat)] 5)).alloc (.cells #[.int .u8 (o : Nat)] 5)).alloc (.cells #[.int .i64 d] 3)).alloc (.cells zf.cs.toArray 23)).alloc (.cells zf.cs.toArray 23)).alloc (.cells #[.bool false] 4))).heap.size = w.heap.size + 1 + 1 + 1 + 1 + 1 + 1 + 1) := Lib.hid (by simp)
  generalize World.alloc (World.alloc (World.alloc (World.alloc (World.alloc (World.alloc (World.alloc _ _) _) _) _) _) _) _ = W0 at *
  refine wpIn_rangeFunc_ownH hro h1 (gf := 28) (lb := #[]) rfl h28 (enters_of Tryd.func28 (by kernel_rfl) rfl)
    (each_stops F HF (n - 1) (by omega) hro W0 HG0.out) kpC_t (fun W l o o' => kpC_b (w := W0) W l o o') (Below.refl _ _) (fun _ => rfl)
    (fun pre W => FI w p m o d zf false W ∧ pre.any (fun f => fitsZ f p m o d) = false) (fun c pre W => ∃ q x, pre = q ++ [x] ∧ c = .exit 0 ∧ q.any (fun f => fitsZ f p m o d) = false ∧ fitsZ x p m o d = true ∧ FI w p m o d x true W)
    (fun s A B row hs hg hr => ⟨FI.own w p m o d zf false _ (by have := HZ.out; omega) s A B row hs.1 hg hr, hs.2⟩)
    (fun c s A B row hs hg hr => by
      obtain ⟨q, x, h1, h2, h3, h4, h5⟩ := hs
      exact ⟨q, x, h1, h2, h3, h4, FI.own w p m o d x true _ (by have := HZ.out; omega) s A B row h5 hg hr⟩)
    ⟨HN.out, rfl⟩
    (fun x a' W => ∃ b1, W0.heap.size ≤ b1 ∧ FB W b1 x ∧ a' = FT w p m o d x b1)
    (fun x a' _ X Y row hs hg hr => by
      obtain ⟨b1, h1, h2, h3⟩ := hs
      exact ⟨b1, h1, ownFrom_block _ b1 (fun (_ : Unit) => x.cs.toArray) 23 () X Y row h2 hg hr, h3⟩) ?assign ?body ?done ?stop
  case assign =>
    rintro l pre x W K ⟨hI, ha⟩ hK
    have hfb := heap_alloc_last W (.cells zf.cs.toArray 23)
    have HFB : Hid (FB (W.alloc (.cells zf.cs.toArray 23)) W.heap.size zf) := Lib.hid hfb
    clear hfb
    have hsz : W0.heap.size ≤ W.heap.size := by have := hI.lt; have := HZ.out; omega
    gi_wp2_with (refine wpListIn_store23 (u := zf) (f := x) rfl rfl rfl rfl HFB.out ?_)
    have hbl : Below W.heap.size W ((W.alloc (.cells zf.cs.toArray 23)).setRow W.heap.size x.cs.toArray) := below_row ((Below.refl _ W).alloc (Nat.le_refl _) _) (Nat.le_refl _)
    exact hK _ _ (below_keeps hbl _) (kpC_below hbl) ⟨hI.keep hbl, ha⟩ ⟨W.heap.size, hsz, HFB.out.row, rfl⟩
  case body =>
    rintro l pre x a' W hl ⟨r, hr⟩ ⟨hI, ha⟩ ⟨b1, hb1, hF, rfl⟩ hlt
    have h1' : 1 ≤ n - 1 - 1 := by omega
    have hsz : W0.heap.size = w.heap.size + 1 + 1 + 1 + 1 + 1 + 1 + 1 := HZ.out
    have HFB := Lib.hid hF
    have HD := Lib.hid hI
    have HA := Lib.hid ha
    have hC := CallsIn.inRound l (inW (n := n - 1 - 1 - 1) HF (HS x W).out)
    obtain ⟨e1, e2, e3, e4, e5⟩ := hI.c
    clear hF hI ha hr hl HG HG0 HN HS hlt HZ0
    generalize hs : fitsZ x p m o d = s at hC
    have HX := Lib.hid hs
    clear hs
    unfold FT
    gi_wp2_with (first | (refine wpListIn_load23 (f := x) rfl rfl rfl HFB.out ?_) | fail)
    refine hC.mono ?_
    rintro e W2 ⟨rfl, hb2⟩
    have HD2 := Lib.hid (HD.out.keep hb2)
    have HF2 := Lib.hid (HFB.out.keep hb2)
    have HK2 : Hid (KpC W0.heap.size W W2) := Lib.hid (kpC_below hb2)
    have HQ2 : Hid (KeepsFrom W0.heap.size W W2) := Lib.hid (below_keeps hb2 _)
    clear e1 e2 e3 e4 e5 hC hb2
    cases s
    · gi_wp2
      exact ⟨HQ2.out, HK2.out, HD2.out, by rw [List.any_append, HA.out]; simp [HX.out]⟩
    · have HD3 := Lib.hid (HD2.out.found x)
      have f6 := HD3.out.f6
      obtain ⟨_, _, _, _, c6⟩ := HD3.out.c
      gi_wp2_with (first | (refine wpListIn_load23 (f := x) rfl rfl rfl HF2.out ?_) | (refine wpListIn_store23 (u := zf) (f := x) rfl rfl rfl rfl HD2.out.h5 ?_) | fail)
      exact ⟨HQ2.out.trans ((keeps_row _ (by omega)).trans ((KeepsOthers.setCell _ _ _).from _)), pre, x, rfl, rfl, HA.out, HX.out, HD3.out.ok true⟩
  case done =>
    rintro D ys W hD rfl ⟨hI, ha⟩ hK
    have HD := Lib.hid hI
    have HA := Lib.hid ha
    have HKK := Lib.hid hK
    clear hI ha hK
    gi_wp2_with fail
    go_upto_region 6 with fail
    have hR : FR w D zf false W := ⟨⟨_, HD.out.h4⟩, HD.out.h5, HD.out.h6, HD.out.b, HKK.out⟩
    refine wp_region_noPanic ?_
    refine wp_region_held_drew (S := fun W => FR w D zf false W) (by kernel_rfl) ?_ (fun hHeld => ?_)
    · exact hR.drew
    clear hR
    refine wpAnyH_take (i := 0) (v := ?_) rfl (by kernel_rfl) (by kernel_rfl) (by kernel_rfl) (fun _ _ _ h => h) (Or.inl ⟨by kernel_rfl, ?_⟩) (by assumption) ?_
    rotate_left
    · intro w hSw
      refine exec_load23 (x := .tmp 10) ?_ ?_ hSw.2.1
      · rfl
      · rfl
      try with_reducible rfl
    simp only [Act.put, List.setIfInBounds_toArray, List.set_cons_zero, List.set_cons_succ, List.getElem_toArray, List.getElem_cons_succ, List.getElem_cons_zero]
    refine wpAnyH_take (i := 1) (v := ?_) rfl (by kernel_rfl) (by kernel_rfl) (by kernel_rfl) (fun _ _ _ h => h) (Or.inl ⟨by kernel_rfl, ?_⟩) (by assumption) ?_
    rotate_left
    · intro w hSw
      have hc := FR.c hSw
      go_simp
      try with_reducible rfl
    simp only [Act.put, List.setIfInBounds_toArray, List.set_cons_zero, List.set_cons_succ, List.getElem_toArray, List.getElem_cons_succ, List.getElem_cons_zero]
    refine wpAnyH_ready (rs := [2]) (by kernel_rfl) (by simp) ?_
    refine AllReadyH.cons rfl (fun K hK => ?_) AllReadyH.nil
    rw [if_pos (by kernel_rfl)]
    obtain ⟨g, hg⟩ := hHeld.1
    have h9 := Lib.hid (hHeld.res (by have := HZ.out; omega))
    refine wp_store23 (x := .tmp 8) (y := .tmp 23) (f := zf) ?_ ?_ ?_ hg ?_
    · rfl
    · rfl
    · rfl
    refine hK.out _ _ h9.out.1 (fun hHeld2 => ?_)
    clear hK K hHeld hg
    have hHeld := hHeld2
    clear hHeld2
    try simp only [Act.put, List.setIfInBounds_toArray, List.set_cons_zero, List.set_cons_succ, List.getElem_toArray, List.getElem_cons_succ, List.getElem_cons_zero]
    refine wpAnyH_take (i := 3) (v := ?_) rfl (by kernel_rfl) (by kernel_rfl) (by kernel_rfl) (fun _ _ _ h => h) (Or.inl ⟨by kernel_rfl, ?_⟩) (by assumption) ?_
    rotate_left
    · intro w hSw
      go_simp
      try with_reducible rfl
    simp only [Act.put, List.setIfInBounds_toArray, List.set_cons_zero, List.set_cons_succ, List.getElem_toArray, List.getElem_cons_succ, List.getElem_cons_zero]
    refine wpAnyH_done (by kernel_rfl) ?_ _
    refine NoPanic.normal ?_
    generalize World.setRow _ _ _ = W9 at h9 ⊢
    go_wp2_with fail
    rw [Exit.noGoto_ret]
    have hne : w.heap.size + 1 + 1 + 1 + 1 ≠ D := by have := HZ.out; omega
    have HBB := Lib.hid (h9.out.1.2.2.2.1.trans (belowK_b (w := w) (Nat.le_refl _) W9 D _ (.deferred none) (by have := HZ.out; omega) h9.out.1.2.2.2.2 rfl rfl))
    have hfb : FB (W9.putObj D (.deferred none)) (w.heap.size + 1 + 1 + 1 + 1) zf := (putObj_other hne).trans h9.out.2
    show bodyPostM F n Tryd.prog Tryd.f10 _ Exit.ret _ _
    refine ⟨by simp, .inl ⟨_, _, rfl, run_takeDeferred h9.out.1.2.2.2.2, ?_⟩⟩
    exact ⟨_, res10 (r := false) rfl rfl hfb, by rw [find_none HA.out], HBB.out⟩
  case stop =>
    rintro D c pre W hD hS ⟨q, x, rfl, rfl, ha, hx, hI⟩ hK
    have HD := Lib.hid hI
    have HA := Lib.hid ha
    have HX := Lib.hid hx
    have HS := Lib.hid hS
    have HKK := Lib.hid hK
    clear hI ha hS hx hK
    gi_wp2_with fail
    go_upto_region 6 with fail
    have hR : FR w D x true W := ⟨⟨_, HD.out.h4⟩, HD.out.h5, HD.out.h6, HD.out.b, HKK.out⟩
    refine wp_region_noPanic ?_
    refine wp_region_held_drew (S := fun W => FR w D x true W) (by kernel_rfl) ?_ (fun hHeld => ?_)
    · exact hR.drew
    clear hR
    refine wpAnyH_take (i := 0) (v := ?_) rfl (by kernel_rfl) (by kernel_rfl) (by kernel_rfl) (fun _ _ _ h => h) (Or.inl ⟨by kernel_rfl, ?_⟩) (by assumption) ?_
    rotate_left
    · intro w hSw
      refine exec_load23 (x := .tmp 10) ?_ ?_ hSw.2.1
      · rfl
      · rfl
      try with_reducible rfl
    simp only [Act.put, List.setIfInBounds_toArray, List.set_cons_zero, List.set_cons_succ, List.getElem_toArray, List.getElem_cons_succ, List.getElem_cons_zero]
    refine wpAnyH_take (i := 1) (v := ?_) rfl (by kernel_rfl) (by kernel_rfl) (by kernel_rfl) (fun _ _ _ h => h) (Or.inl ⟨by kernel_rfl, ?_⟩) (by assumption) ?_
    rotate_left
    · intro w hSw
      have hc := FR.c hSw
      go_simp
      try with_reducible rfl
    simp only [Act.put, List.setIfInBounds_toArray, List.set_cons_zero, List.set_cons_succ, List.getElem_toArray, List.getElem_cons_succ, List.getElem_cons_zero]
    refine wpAnyH_ready (rs := [2]) (by kernel_rfl) (by simp) ?_
    refine AllReadyH.cons rfl (fun K hK => ?_) AllReadyH.nil
    rw [if_pos (by kernel_rfl)]
    obtain ⟨g, hg⟩ := hHeld.1
    have h9 := Lib.hid (hHeld.res (by have := HZ.out; omega))
    refine wp_store23 (x := .tmp 8) (y := .tmp 23) (f := x) ?_ ?_ ?_ hg ?_
    · rfl
    · rfl
    · rfl
    refine hK.out _ _ h9.out.1 (fun hHeld2 => ?_)
    clear hK K hHeld hg
    have hHeld := hHeld2
    clear hHeld2
    try simp only [Act.put, List.setIfInBounds_toArray, List.set_cons_zero, List.set_cons_succ, List.getElem_toArray, List.getElem_cons_succ, List.getElem_cons_zero]
    refine wpAnyH_take (i := 3) (v := ?_) rfl (by kernel_rfl) (by kernel_rfl) (by kernel_rfl) (fun _ _ _ h => h) (Or.inl ⟨by kernel_rfl, ?_⟩) (by assumption) ?_
    rotate_left
    · intro w hSw
      go_simp
      try with_reducible rfl
    simp only [Act.put, List.setIfInBounds_toArray, List.set_cons_zero, List.set_cons_succ, List.getElem_toArray, List.getElem_cons_succ, List.getElem_cons_zero]
    refine wpAnyH_done (by kernel_rfl) ?_ _
    refine NoPanic.normal ?_
    generalize World.setRow _ _ _ = W9 at h9 ⊢
    go_wp2_with fail
    rw [Exit.noGoto_ret]
    have hne : w.heap.size + 1 + 1 + 1 + 1 ≠ D := by have := HZ.out; omega
    have HBB := Lib.hid (h9.out.1.2.2.2.1.trans (belowK_b (w := w) (Nat.le_refl _) W9 D _ (.deferred none) (by have := HZ.out; omega) h9.out.1.2.2.2.2 rfl rfl))
    have hfb : FB (W9.putObj D (.deferred none)) (w.heap.size + 1 + 1 + 1 + 1) x := (putObj_other hne).trans h9.out.2
    show bodyPostM F n Tryd.prog Tryd.f10 _ Exit.ret _ _
    refine ⟨by simp, .inl ⟨_, _, rfl, run_takeDeferred h9.out.1.2.2.2.2, ?_⟩⟩
    exact ⟨_, res10 (r := true) rfl rfl hfb, by rw [find_some HA.out HX.out HS.out], HBB.out⟩
theorem find_any (p m o : Nat) (d : Int) (w : World) (hG : GL w) :
    Calls Tryd.prog 10 #[.int .u8 (p : Nat), .int .u8 (m : Nat), .int .u8 (o : Nat), .int .i64 d] w fun e W' => e = .returned (.tuple #[(findR (fun f => fitsZ f p m o d)).1.v, .bool (findR (fun f => fitsZ f p m o d)).2]) ∧ Below w.heap.size w W' :=
  callsIn_wide.1 (find_in Fence.wide (Lib.hid rfl) 5 (Nat.le_refl _) p m o d w hG)
end Go.Proofs.YtaeehinlgmijgaaDoor
