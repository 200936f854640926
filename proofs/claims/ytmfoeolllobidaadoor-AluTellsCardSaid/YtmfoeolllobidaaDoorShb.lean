/- What a loop over alu.fallen keeps. -/
import Derived.Test.YtmfoeolllobidaaDoorShf
import Derived.ProofKit
namespace Go.Proofs.YtmfoeolllobidaaDoor
open Go.RowKit Go.Shelf
set_option linter.unusedSimpArgs false
set_option linter.unusedVariables false
attribute [local go_sem] Oper.semAt_some
theorem wpIn_of_wp {F : Fence} (HF : Hid (F = Fence.wide)) {n : Nat} {P : Program} {c : Code} {Q : Exit → Act → World → Prop} {a : Act} {w : World} (h : c.wp P Q a w) : c.wpIn F n P Q a w := by
  rw [HF.out]; exact wpIn_wide.2 h
theorem wp_of_wpIn {F : Fence} (HF : Hid (F = Fence.wide)) (n : Nat) {P : Program} {c : Code} {Q : Exit → Act → World → Prop} {a : Act} {w : World} (h : c.wpIn F n P Q a w) : c.wp P Q a w := by
  rw [HF.out] at h; exact wpIn_wide.1 h
/-- The last of what has come. -/
def rvOf (pre : List (Nat × Bool)) : Value := match pre.getLast? with | none => .int .u64 0 | some x => .int .u64 (x.1 : Int)
def lvOf (pre : List (Nat × Bool)) : Value := match pre.getLast? with | none => .bool false | some x => .bool x.2
theorem rvOf_snoc (pre : List (Nat × Bool)) (x : Nat × Bool) : rvOf (pre ++ [x]) = .int .u64 (x.1 : Int) := by simp [rvOf]
theorem lvOf_snoc (pre : List (Nat × Bool)) (x : Nat × Bool) : lvOf (pre ++ [x]) = .bool x.2 := by simp [lvOf]
/-- Between two rounds: three boxes turn, all other cells of Wb lie as they lay. -/
structure Rnd (w Wb : World) (pr pq pa : Nat) (a : Nat) (pre : List (Nat × Bool)) (W : World) : Prop where
  r : Boxed W pr 22 (rvOf pre)
  q : Boxed W pq 4 (lvOf pre)
  a : ∃ v, Boxed W pa 22 v ∧ (pre = [] → v = .int .u64 (a : Int))
  kp : ∀ (b : Nat) c t f, b ≠ pr → b ≠ pq → b ≠ pa → Wb.heap[b]? = some (.cells c t f) → W.heap[b]? = some (.cells c t f)
  bel : Below w.heap.size w W
theorem Rnd.own {w Wb : World} {pr pq pa a : Nat} {B : Nat} (hB : w.heap.size ≤ B) : OwnFrom B (Rnd w Wb pr pq pa a) := by
  rintro pre X Y row ⟨h1, h2, ⟨v, h3, h30⟩, h4, h5⟩ hg hr
  have key : ∀ (b : Nat) c t f, X.heap[b]? = some (Obj.cells c t f) → Y.heap[b]? = some (Obj.cells c t f) := fun b c t f hb => by
    refine (hg.block b (Array.getElem?_eq_some_iff.1 hb).1 ?_).trans hb
    intro e
    obtain ⟨_, o, ho, hc⟩ := hr b e.symm
    rw [hb] at ho; cases ho; cases hc
  refine ⟨key _ _ _ _ h1, key _ _ _ _ h2, ⟨v, key _ _ _ _ h3, h30⟩, fun b c t f e1 e2 e3 hb => key _ _ _ _ (h4 b c t f e1 e2 e3 hb), h5.trans ⟨hg.os, hg.tape, hg.output, hg.size, fun k hk => ?_⟩⟩
  have hz := h5.size
  refine hg.block k (by omega) ?_
  intro e
  obtain ⟨hh, _⟩ := hr k e.symm
  omega
theorem Rnd.drewN {w Wb : World} {pr pq pa a : Nat} {pre : List (Nat × Bool)} {W : World} (h : Rnd w Wb pr pq pa a pre W) (n : Nat) : Rnd w Wb pr pq pa a pre (W.drewN n) :=
  ⟨h.r, h.q, h.a, h.kp, h.bel.trans ⟨rfl, rfl, rfl, Nat.le_refl _, fun _ _ => rfl⟩⟩
theorem heap_set {W : World} {b p : Nat} {v : Value} (h : b ≠ p) : (W.setCell ⟨p, 0, none⟩ v).heap[b]? = W.heap[b]? := Below.heap_setCell W ⟨p, 0, none⟩ v b h
theorem Rnd.setA {w Wb : World} {pr pq pa a : Nat} {pre : List (Nat × Bool)} {W : World} (h : Rnd w Wb pr pq pa a pre W) (hp : pre ≠ []) (h1 : pr ≠ pa) (h2 : pq ≠ pa) (h3 : w.heap.size ≤ pa) (x : Value) : Rnd w Wb pr pq pa a pre (W.setCell ⟨pa, 0, none⟩ x) := by
  obtain ⟨v, hv, _⟩ := h.a
  exact ⟨h.r.other h1 x, h.q.other h2 x, ⟨x, hv.set x, fun e => absurd e hp⟩, fun b c t f e1 e2 e3 hb => (heap_set e3).trans (h.kp b c t f e1 e2 e3 hb), h.bel.setCell (p := ⟨pa, 0, none⟩) h3 x⟩
theorem Rnd.next {w Wb : World} {pr pq pa a : Nat} {pre : List (Nat × Bool)} {x : Nat × Bool} {W : World} (h : Rnd w Wb pr pq pa a pre W) (h1 : pr ≠ pq) (h2 : pa ≠ pr) (h3 : pa ≠ pq) (h4 : w.heap.size ≤ pr) (h5 : w.heap.size ≤ pq) :
    Rnd w Wb pr pq pa a (pre ++ [x]) ((W.setCell ⟨pr, 0, none⟩ (.int .u64 (x.1 : Int))).setCell ⟨pq, 0, none⟩ (.bool x.2)) := by
  obtain ⟨v, hv, _⟩ := h.a
  refine ⟨?_, ?_, ⟨v, (hv.other h2 _).other h3 _, fun e => by simp at e⟩, fun b c t f e1 e2 e3 hb => (heap_set e2).trans ((heap_set e1).trans (h.kp b c t f e1 e2 e3 hb)), (h.bel.setCell (p := ⟨pr, 0, none⟩) h4 _).setCell (p := ⟨pq, 0, none⟩) h5 _⟩
  · rw [rvOf_snoc]; exact (h.r.set _).other h1 _
  · rw [lvOf_snoc]; exact (h.q.other h1.symm _).set _
theorem rvOf_ups (st : Nat → Nat × Bool) (a k : Nat) (h : 0 < k) : rvOf (ups st a k) = .int .u64 ((it st a k).1 : Int) := by
  obtain ⟨j, rfl⟩ : ∃ j, k = j + 1 := ⟨k - 1, by omega⟩
  rw [ups_succ, rvOf_snoc]
theorem lvOf_ups (st : Nat → Nat × Bool) (a k : Nat) (h : 0 < k) : lvOf (ups st a k) = .bool (it st a k).2 := by
  obtain ⟨j, rfl⟩ : ∃ j, k = j + 1 := ⟨k - 1, by omega⟩
  rw [ups_succ, lvOf_snoc]
/-- The world where the loop begins. -/
def base5 (W1 : World) (s f : Value) (t : Bool) (a k : Nat) : World :=
  ((((W1.alloc (Obj.cells #[s, f, .bool t] 53)).alloc (Obj.cells #[.bool false] 4)).alloc (Obj.cells #[.int .u64 (a : Int)] 22)).alloc (Obj.cells #[.int .i64 (k : Int)] 3)).alloc (Obj.cells #[s] 50)
def start3 (w : World) (c z s o p : Bool) : World :=
  ((w.alloc (Obj.cells #[.bool c, .bool z, .bool s, .bool o, .bool p] 24)).alloc (Obj.cells #[.int .u64 0] 22)).alloc fl0
theorem start3_size (w : World) (c z s o p : Bool) : (start3 w c z s o p).heap.size = w.heap.size + 1 + 1 + 1 := by unfold start3; simp
/-- What lies where the loop begins. -/
structure Base (w W1 : World) (c z s o p : Bool) (wd : Int) (a k : Nat) (sv fv : Value) (t : Bool) (Wb : World) : Prop where
  big : w.heap.size + 1 + 1 + 1 + 1 + 1 + 1 + 1 < W1.heap.size
  bw : Boxed Wb (w.heap.size + 1 + 1 + 1) 3 (.int .i64 wd)
  ba : Boxed Wb (w.heap.size + 1 + 1 + 1 + 1) 22 (.int .u64 (a : Int))
  bl : Boxed Wb (w.heap.size + 1 + 1 + 1 + 1 + 1) 48 (.func (Fn.func 60) #[] #[])
  bh : Boxed Wb (w.heap.size + 1 + 1 + 1 + 1 + 1 + 1) 48 (.func (Fn.func 61) #[] #[.pointer (some ⟨w.heap.size + 1 + 1 + 1, 0, none⟩)])
  bs : Wb.heap[W1.heap.size]? = some (.cells #[sv, fv, .bool t] 53 (0, 0))
  bq : Boxed Wb (W1.heap.size + 1) 4 (.bool false)
  bx : Boxed Wb (W1.heap.size + 1 + 1) 22 (.int .u64 (a : Int))
  bn : Boxed Wb (W1.heap.size + 1 + 1 + 1) 3 (.int .i64 (k : Int))
  bt : Boxed Wb (W1.heap.size + 1 + 1 + 1 + 1) 50 sv
  br : Boxed Wb (w.heap.size + 1) 22 (.int .u64 0)
  bf : Wb.heap[w.heap.size + 1 + 1]? = some (.cells #[.bool false, .bool false, .bool false, .bool false, .bool false] 24 (0, 0))
  bwas : Wb.heap[w.heap.size]? = some (.cells #[.bool c, .bool z, .bool s, .bool o, .bool p] 24 (0, 0))
  bel : Below w.heap.size w Wb
  sz : Wb.heap.size = W1.heap.size + 1 + 1 + 1 + 1 + 1
theorem base_of (w W1 : World) (c z s o p : Bool) (wd : Int) (a k : Nat) (sv fv : Value) (t : Bool) (h : Laid4 (start3 w c z s o p) wd a W1) : Base w W1 c z s o p wd a k sv fv t (base5 W1 sv fv t a k) := by
  obtain ⟨h1, h2, h3, h4, h5, h6⟩ := h
  rw [start3_size] at h1 h2 h3 h4 h5 h6
  have up : ∀ (b : Nat) o, W1.heap[b]? = some o → (base5 W1 sv fv t a k).heap[b]? = some o := fun b o hb => by
    have hlt := (Array.getElem?_eq_some_iff.1 hb).1
    unfold base5
    iterate 5 rw [Below.heap_alloc _ _ _ (by first | assumption | omega | (simp; done) | (simp; omega))]
    exact hb
  have e0 : (start3 w c z s o p).heap[w.heap.size]? = some (.cells #[.bool c, .bool z, .bool s, .bool o, .bool p] 24 (0, 0)) := by
    unfold start3
    rw [Below.heap_alloc _ _ _ (by first | assumption | omega | (simp; done) | (simp; omega)), Below.heap_alloc _ _ _ (by simp)]
    exact World.alloc_heap_new w _
  have e1 : (start3 w c z s o p).heap[w.heap.size + 1]? = some (.cells #[.int .u64 0] 22 (0, 0)) := by
    unfold start3
    rw [Below.heap_alloc _ _ _ (by first | assumption | omega | (simp; done) | (simp; omega))]
    have := World.alloc_heap_new (w.alloc (Obj.cells #[.bool c, .bool z, .bool s, .bool o, .bool p] 24)) (Obj.cells #[.int .u64 0] 22)
    simpa using this
  have e2 : (start3 w c z s o p).heap[w.heap.size + 1 + 1]? = some (.cells #[.bool false, .bool false, .bool false, .bool false, .bool false] 24 (0, 0)) := by
    unfold start3
    have := World.alloc_heap_new ((w.alloc (Obj.cells #[.bool c, .bool z, .bool s, .bool o, .bool p] 24)).alloc (Obj.cells #[.int .u64 0] 22)) fl0
    simpa using this
  have hs3 : Below w.heap.size w (start3 w c z s o p) := by
    unfold start3
    exact (((Below.refl _ w).alloc (Nat.le_refl _) _).alloc (by simp) _).alloc (by simp; omega) _
  have hb5 : Below w.heap.size W1 (base5 W1 sv fv t a k) := by
    unfold base5
    exact (((((Below.refl _ W1).alloc (by omega) _).alloc (by simp; omega) _).alloc (by simp; omega) _).alloc (by simp; omega) _).alloc (by simp; omega) _
  have b0 := World.alloc_heap_new W1 (Obj.cells #[sv, fv, .bool t] 53)
  have b1 := Boxed.new (W1.alloc (Obj.cells #[sv, fv, .bool t] 53)) 4 (.bool false)
  have b2 := Boxed.new ((W1.alloc (Obj.cells #[sv, fv, .bool t] 53)).alloc (Obj.cells #[.bool false] 4)) 22 (.int .u64 (a : Int))
  have b3 := Boxed.new (((W1.alloc (Obj.cells #[sv, fv, .bool t] 53)).alloc (Obj.cells #[.bool false] 4)).alloc (Obj.cells #[.int .u64 (a : Int)] 22)) 3 (.int .i64 (k : Int))
  have b4 := Boxed.new ((((W1.alloc (Obj.cells #[sv, fv, .bool t] 53)).alloc (Obj.cells #[.bool false] 4)).alloc (Obj.cells #[.int .u64 (a : Int)] 22)).alloc (Obj.cells #[.int .i64 (k : Int)] 3)) 50 sv
  simp only [World.size_alloc] at b1 b2 b3 b4
  refine ⟨h2, up _ _ h3, up _ _ h4, up _ _ h5, up _ _ h6, ?_, ?_, ?_, ?_, b4, up _ _ ((h1.block _ (by omega)).trans e1), up _ _ ((h1.block _ (by omega)).trans e2), up _ _ ((h1.block _ (by omega)).trans e0), hs3.trans ((h1.mono (by omega)).trans hb5), by unfold base5; simp⟩
  · unfold base5
    iterate 4 rw [Below.heap_alloc _ _ _ (by first | assumption | omega | (simp; done) | (simp; omega))]
    exact b0
  · exact ((b1.alloc _).alloc _).alloc _
  · exact (b2.alloc _).alloc _
  · exact b3.alloc _
theorem Base.start {w W1 : World} {c z s o p : Bool} {wd : Int} {a k : Nat} {sv fv : Value} {t : Bool} {Wb : World} (h : Base w W1 c z s o p wd a k sv fv t Wb) : Rnd w Wb (w.heap.size + 1) (W1.heap.size + 1) (W1.heap.size + 1 + 1) a [] Wb :=
  ⟨h.br, h.bq, ⟨_, h.bx, fun _ => rfl⟩, fun _ _ _ _ _ _ _ hb => hb, h.bel⟩
theorem Base.env {w W1 : World} {c z s o p : Bool} {wd : Int} {a k : Nat} {sv fv : Value} {t : Bool} {Wb : World} (h : Base w W1 c z s o p wd a k sv fv t Wb) (hm : Mk w) {pre : List (Nat × Bool)} {W : World} (g : Rnd w Wb (w.heap.size + 1) (W1.heap.size + 1) (W1.heap.size + 1 + 1) a pre W) :
    Env wd a (w.heap.size + 1 + 1 + 1) (w.heap.size + 1 + 1 + 1 + 1) (w.heap.size + 1 + 1 + 1 + 1 + 1) (w.heap.size + 1 + 1 + 1 + 1 + 1 + 1) W := by
  have := h.big
  have k1 : Boxed W (w.heap.size + 1 + 1 + 1) 3 (.int .i64 wd) := g.kp _ _ _ _ (by omega) (by omega) (by omega) h.bw
  have k2 : Boxed W (w.heap.size + 1 + 1 + 1 + 1) 22 (.int .u64 (a : Int)) := g.kp _ _ _ _ (by omega) (by omega) (by omega) h.ba
  have k3 : Boxed W (w.heap.size + 1 + 1 + 1 + 1 + 1) 48 _ := g.kp _ _ _ _ (by omega) (by omega) (by omega) h.bl
  have k4 : Boxed W (w.heap.size + 1 + 1 + 1 + 1 + 1 + 1) 48 _ := g.kp _ _ _ _ (by omega) (by omega) (by omega) h.bh
  exact ⟨hm.own g.bel, k1.cell, k2.cell, k3.cell, k4.cell⟩
/-- What lies where Shift ends: its result's box, its flags' block, the block for deferred calls. -/
def Tl (w : World) (D : Nat) (r : Value) (W : World) : Prop :=
  Boxed W (w.heap.size + 1) 22 r ∧ (∃ v0 v1 v2 v3 v4, W.heap[w.heap.size + 1 + 1]? = some (.cells #[v0, v1, v2, v3, v4] 24 (0, 0))) ∧ Below w.heap.size w W ∧ W.heap[D]? = some (.deferred (some []))
theorem Tl.box {w : World} {D : Nat} {r : Value} {W : World} (h : Tl w D r W) : Boxed W (w.heap.size + 1) 22 r := h.1
theorem Tl.res {w : World} {D : Nat} {r : Value} {W : World} (h : Tl w D r W) : ∃ v0 v1 v2 v3 v4, W.heap[w.heap.size + 1 + 1]? = some (.cells #[v0, v1, v2, v3, v4] 24 (0, 0)) := h.2.1
theorem Tl.bel {w : World} {D : Nat} {r : Value} {W : World} (h : Tl w D r W) : Below w.heap.size w W := h.2.2.1
theorem Tl.dfr {w : World} {D : Nat} {r : Value} {W : World} (h : Tl w D r W) : W.heap[D]? = some (.deferred (some [])) := h.2.2.2
theorem Tl.below {w : World} {D : Nat} {r : Value} {W W' : World} (h : Tl w D r W) (hb : Below W.heap.size W W') : Tl w D r W' := by
  obtain ⟨h1, ⟨v0, v1, v2, v3, v4, h2⟩, h3, h4⟩ := h
  exact ⟨(hb.block _ h1.lt).trans h1, ⟨v0, v1, v2, v3, v4, (hb.block _ (Array.getElem?_eq_some_iff.1 h2).1).trans h2⟩, h3.trans (hb.mono h3.size), (hb.block _ (Array.getElem?_eq_some_iff.1 h4).1).trans h4⟩
theorem Tl.drewN {w : World} {D : Nat} {r : Value} {W : World} (h : Tl w D r W) (n : Nat) : Tl w D r (W.drewN n) := h.below ⟨rfl, rfl, rfl, Nat.le_refl _, fun _ _ => rfl⟩
theorem Tl.drew {w : World} {D : Nat} {r : Value} {W : World} (h : Tl w D r W) : Tl w D r W.drew := h.below (Below.refl _ _).drew
theorem Tl.setr {w : World} {D : Nat} {r : Value} {W : World} (h : Tl w D r W) : Tl w D r (W.setCell ⟨w.heap.size + 1, 0, none⟩ r) := by
  obtain ⟨h1, ⟨v0, v1, v2, v3, v4, h2⟩, h3, h4⟩ := h
  have hne : D ≠ w.heap.size + 1 := by rintro rfl; rw [show W.heap[w.heap.size + 1]? = _ from h1] at h4; cases h4
  exact ⟨h1.set r, ⟨v0, v1, v2, v3, v4, (heap_set (by omega)).trans h2⟩, h3.setCell (p := ⟨w.heap.size + 1, 0, none⟩) (by simp) r, (heap_set hne).trans h4⟩
theorem heap_set5 {W : World} {b p i : Nat} {v : Value} (h : b ≠ p) : (W.setCell ⟨p, i, none⟩ v).heap[b]? = W.heap[b]? := Below.heap_setCell W ⟨p, i, none⟩ v b h
theorem cells_set {W : World} {p i : Nat} {cs : Array Value} {t : TypeId} {v : Value} (h : W.heap[p]? = some (.cells cs t (0, 0))) : (W.setCell ⟨p, i, none⟩ v).heap[p]? = some (.cells (cs.setIfInBounds i v) t (0, 0)) := by
  obtain ⟨hlt, hk⟩ := Array.getElem?_eq_some_iff.1 h
  show (W.heap.modify p _)[p]? = _
  rw [Array.getElem?_eq_getElem (by rw [Array.size_modify]; exact hlt), Array.getElem_modify_self, hk]
  rfl
theorem Tl.setf {w : World} {D : Nat} {r : Value} {W : World} (h : Tl w D r W) (x0 x1 x2 x3 x4 : Value) :
    Tl w D r (((((W.setCell ⟨w.heap.size + 1 + 1, 0, none⟩ x0).setCell ⟨w.heap.size + 1 + 1, 1, none⟩ x1).setCell ⟨w.heap.size + 1 + 1, 2, none⟩ x2).setCell ⟨w.heap.size + 1 + 1, 3, none⟩ x3).setCell ⟨w.heap.size + 1 + 1, 4, none⟩ x4) ∧
    (((((W.setCell ⟨w.heap.size + 1 + 1, 0, none⟩ x0).setCell ⟨w.heap.size + 1 + 1, 1, none⟩ x1).setCell ⟨w.heap.size + 1 + 1, 2, none⟩ x2).setCell ⟨w.heap.size + 1 + 1, 3, none⟩ x3).setCell ⟨w.heap.size + 1 + 1, 4, none⟩ x4).heap[w.heap.size + 1 + 1]? = some (.cells #[x0, x1, x2, x3, x4] 24 (0, 0)) := by
  obtain ⟨h1, ⟨v0, v1, v2, v3, v4, h2⟩, h3, h4⟩ := h
  have hne : D ≠ w.heap.size + 1 + 1 := by rintro rfl; rw [h2] at h4; cases h4
  have hv : (((((W.setCell ⟨w.heap.size + 1 + 1, 0, none⟩ x0).setCell ⟨w.heap.size + 1 + 1, 1, none⟩ x1).setCell ⟨w.heap.size + 1 + 1, 2, none⟩ x2).setCell ⟨w.heap.size + 1 + 1, 3, none⟩ x3).setCell ⟨w.heap.size + 1 + 1, 4, none⟩ x4).heap[w.heap.size + 1 + 1]? = some (.cells #[x0, x1, x2, x3, x4] 24 (0, 0)) := cells_set (cells_set (cells_set (cells_set (cells_set h2))))
  refine ⟨⟨?_, ⟨_, _, _, _, _, hv⟩, ((((h3.setCell (p := ⟨_, 0, none⟩) (by simp; omega) _).setCell (p := ⟨_, 1, none⟩) (by simp; omega) _).setCell (p := ⟨_, 2, none⟩) (by simp; omega) _).setCell (p := ⟨_, 3, none⟩) (by simp; omega) _).setCell (p := ⟨_, 4, none⟩) (by simp; omega) _, ?_⟩, hv⟩
  · exact (heap_set5 (by omega)).trans ((heap_set5 (by omega)).trans ((heap_set5 (by omega)).trans ((heap_set5 (by omega)).trans ((heap_set5 (by omega)).trans h1))))
  · exact (heap_set5 hne).trans ((heap_set5 hne).trans ((heap_set5 hne).trans ((heap_set5 hne).trans ((heap_set5 hne).trans h4))))
/-- The same, and the block of the flags that were. -/
def Tw (w : World) (D : Nat) (r : Value) (c z s o p : Bool) (W : World) : Prop :=
  Tl w D r W ∧ W.heap[w.heap.size]? = some (.cells #[.bool c, .bool z, .bool s, .bool o, .bool p] 24 (0, 0))
theorem Tw.tl {w : World} {D : Nat} {r : Value} {c z s o p : Bool} {W : World} (h : Tw w D r c z s o p W) : Tl w D r W := h.1
theorem Tw.drewN {w : World} {D : Nat} {r : Value} {c z s o p : Bool} {W : World} (h : Tw w D r c z s o p W) (n : Nat) : Tw w D r c z s o p (W.drewN n) := ⟨h.1.drewN n, h.2⟩
theorem Tw.drew {w : World} {D : Nat} {r : Value} {c z s o p : Bool} {W : World} (h : Tw w D r c z s o p W) : Tw w D r c z s o p W.drew := ⟨h.1.drew, h.2⟩
theorem Tw.cells {w : World} {D : Nat} {r : Value} {c z s o p : Bool} {W : World} (h : Tw w D r c z s o p W) :
    W.cell? ⟨w.heap.size, 0, none⟩ = some (.bool c) ∧ W.cell? ⟨w.heap.size, 1, none⟩ = some (.bool z) ∧ W.cell? ⟨w.heap.size, 2, none⟩ = some (.bool s) ∧ W.cell? ⟨w.heap.size, 3, none⟩ = some (.bool o) ∧ W.cell? ⟨w.heap.size, 4, none⟩ = some (.bool p) := by
  have hv := h.2
  refine ⟨?_, ?_, ?_, ?_, ?_⟩ <;> simp [World.cell?, hv]
theorem Tw.frozen {w : World} {D : Nat} {r : Value} {c z s o p : Bool} {W : World} (h : Tw w D r c z s o p W) (i : Nat) (hi : i < 5) : W.frozen? ⟨w.heap.size, i, none⟩ = false := by
  have hv := h.2
  simp [World.frozen?, hv]
theorem Tw.setr {w : World} {D : Nat} {r : Value} {c z s o p : Bool} {W : World} (h : Tw w D r c z s o p W) : Tw w D r c z s o p (W.setCell ⟨w.heap.size + 1, 0, none⟩ r) :=
  ⟨h.1.setr, (heap_set (by omega)).trans h.2⟩
theorem Tw.setw {w : World} {D : Nat} {r : Value} {c z s o p : Bool} {W : World} (h : Tw w D r c z s o p W) (c' o' : Bool) :
    Tw w D r c' z s o' p ((W.setCell ⟨w.heap.size, 0, none⟩ (.bool c')).setCell ⟨w.heap.size, 3, none⟩ (.bool o')) := by
  obtain ⟨⟨h1, ⟨v0, v1, v2, v3, v4, h2⟩, h3, h4⟩, h5⟩ := h
  have hne : D ≠ w.heap.size := by rintro rfl; rw [h5] at h4; cases h4
  exact ⟨⟨(heap_set5 (by omega)).trans ((heap_set5 (by omega)).trans h1), ⟨v0, v1, v2, v3, v4, (heap_set5 (by omega)).trans ((heap_set5 (by omega)).trans h2)⟩, (h3.setCell (p := ⟨w.heap.size, 0, none⟩) (Nat.le_refl _) _).setCell (p := ⟨w.heap.size, 3, none⟩) (Nat.le_refl _) _, (heap_set5 hne).trans ((heap_set5 hne).trans h4)⟩, cells_set (cells_set h5)⟩
theorem Tw.setf {w : World} {D : Nat} {r : Value} {c z s o p : Bool} {W : World} (h : Tw w D r c z s o p W) (x0 x1 x2 x3 x4 : Value) :
    Tw w D r c z s o p (((((W.setCell ⟨w.heap.size + 1 + 1, 0, none⟩ x0).setCell ⟨w.heap.size + 1 + 1, 1, none⟩ x1).setCell ⟨w.heap.size + 1 + 1, 2, none⟩ x2).setCell ⟨w.heap.size + 1 + 1, 3, none⟩ x3).setCell ⟨w.heap.size + 1 + 1, 4, none⟩ x4) ∧
    (((((W.setCell ⟨w.heap.size + 1 + 1, 0, none⟩ x0).setCell ⟨w.heap.size + 1 + 1, 1, none⟩ x1).setCell ⟨w.heap.size + 1 + 1, 2, none⟩ x2).setCell ⟨w.heap.size + 1 + 1, 3, none⟩ x3).setCell ⟨w.heap.size + 1 + 1, 4, none⟩ x4).heap[w.heap.size + 1 + 1]? = some (.cells #[x0, x1, x2, x3, x4] 24 (0, 0)) :=
  ⟨⟨(h.1.setf x0 x1 x2 x3 x4).1, (heap_set5 (by omega)).trans ((heap_set5 (by omega)).trans ((heap_set5 (by omega)).trans ((heap_set5 (by omega)).trans ((heap_set5 (by omega)).trans h.2))))⟩, (h.1.setf x0 x1 x2 x3 x4).2⟩
end Go.Proofs.YtmfoeolllobidaaDoor
