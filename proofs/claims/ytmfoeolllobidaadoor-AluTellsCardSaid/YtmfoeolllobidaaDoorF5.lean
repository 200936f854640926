/- A block of five cells: what lies in it, kept and changed. -/
import Derived.Test.YtmfoeolllobidaaDoorShz
import Derived.Deep.RegionHeld3
import Derived.Deep.DrawnRows
import Derived.RegionTactic
namespace Go.Proofs.YtmfoeolllobidaaDoor
open Go.RowKit
set_option linter.unusedSimpArgs false
set_option linter.unusedVariables false
def F5 (W : World) (b : Nat) (x0 x1 x2 x3 x4 : Bool) : Prop := W.heap[b]? = some (.cells #[.bool x0, .bool x1, .bool x2, .bool x3, .bool x4] 24 (0, 0))
theorem F5.lt {W : World} {b : Nat} {x0 x1 x2 x3 x4 : Bool} (h : F5 W b x0 x1 x2 x3 x4) : b < W.heap.size := (Array.getElem?_eq_some_iff.1 h).1
theorem F5.new (w : World) (x0 x1 x2 x3 x4 : Bool) : F5 (w.alloc (Obj.cells #[.bool x0, .bool x1, .bool x2, .bool x3, .bool x4] 24)) w.heap.size x0 x1 x2 x3 x4 := World.alloc_heap_new w _
theorem F5.keep {W W' : World} {b : Nat} {x0 x1 x2 x3 x4 : Bool} (h : F5 W b x0 x1 x2 x3 x4) (hb : Below W.heap.size W W') : F5 W' b x0 x1 x2 x3 x4 := (hb.block _ h.lt).trans h
theorem F5.alloc {W : World} {b : Nat} {x0 x1 x2 x3 x4 : Bool} (h : F5 W b x0 x1 x2 x3 x4) (o : Obj) : F5 (W.alloc o) b x0 x1 x2 x3 x4 := h.keep ((Below.refl _ _).alloc (Nat.le_refl _) o)
theorem F5.drew {W : World} {b : Nat} {x0 x1 x2 x3 x4 : Bool} (h : F5 W b x0 x1 x2 x3 x4) : F5 W.drew b x0 x1 x2 x3 x4 := h
theorem F5.drewN {W : World} {b : Nat} {x0 x1 x2 x3 x4 : Bool} (h : F5 W b x0 x1 x2 x3 x4) (n : Nat) : F5 (W.drewN n) b x0 x1 x2 x3 x4 := h
theorem hset {W : World} {b p i : Nat} {v : Value} (h : b ≠ p) : (W.setCell ⟨p, i, none⟩ v).heap[b]? = W.heap[b]? := Below.heap_setCell W ⟨p, i, none⟩ v b h
theorem cset {W : World} {p i : Nat} {cs : Array Value} {t : TypeId} {v : Value} (h : W.heap[p]? = some (.cells cs t (0, 0))) : (W.setCell ⟨p, i, none⟩ v).heap[p]? = some (.cells (cs.setIfInBounds i v) t (0, 0)) := by
  obtain ⟨hlt, hk⟩ := Array.getElem?_eq_some_iff.1 h
  show (W.heap.modify p _)[p]? = _
  rw [Array.getElem?_eq_getElem (by rw [Array.size_modify]; exact hlt), Array.getElem_modify_self, hk]
  rfl
theorem F5.far {W : World} {b p i : Nat} {v : Value} {x0 x1 x2 x3 x4 : Bool} (h : F5 W b x0 x1 x2 x3 x4) (hn : b ≠ p) : F5 (W.setCell ⟨p, i, none⟩ v) b x0 x1 x2 x3 x4 := (hset hn).trans h
theorem F5.far5 {W : World} {b p : Nat} {x0 x1 x2 x3 x4 y0 y1 y2 y3 y4 : Bool} (h : F5 W b x0 x1 x2 x3 x4) (hn : b ≠ p) : F5 (((((W.setCell ⟨p, 0, none⟩ (.bool y0)).setCell ⟨p, 1, none⟩ (.bool y1)).setCell ⟨p, 2, none⟩ (.bool y2)).setCell ⟨p, 3, none⟩ (.bool y3)).setCell ⟨p, 4, none⟩ (.bool y4)) b x0 x1 x2 x3 x4 := ((((h.far hn).far hn).far hn).far hn).far hn
theorem F5.put {W : World} {b : Nat} {x0 x1 x2 x3 x4 y0 y1 y2 y3 y4 : Bool} (h : F5 W b x0 x1 x2 x3 x4) : F5 (((((W.setCell ⟨b, 0, none⟩ (.bool y0)).setCell ⟨b, 1, none⟩ (.bool y1)).setCell ⟨b, 2, none⟩ (.bool y2)).setCell ⟨b, 3, none⟩ (.bool y3)).setCell ⟨b, 4, none⟩ (.bool y4)) b y0 y1 y2 y3 y4 := cset (cset (cset (cset (cset h))))
theorem F5.set0 {W : World} {b : Nat} {x0 x1 x2 x3 x4 y : Bool} (h : F5 W b x0 x1 x2 x3 x4) : F5 (W.setCell ⟨b, 0, none⟩ (.bool y)) b y x1 x2 x3 x4 := cset h
theorem F5.set3 {W : World} {b : Nat} {x0 x1 x2 x3 x4 y : Bool} (h : F5 W b x0 x1 x2 x3 x4) : F5 (W.setCell ⟨b, 3, none⟩ (.bool y)) b x0 x1 x2 y x4 := cset h
theorem F5.c {W : World} {b : Nat} {x0 x1 x2 x3 x4 : Bool} (h : F5 W b x0 x1 x2 x3 x4) :
    W.cell? ⟨b, 0, none⟩ = some (.bool x0) ∧ W.cell? ⟨b, 1, none⟩ = some (.bool x1) ∧ W.cell? ⟨b, 2, none⟩ = some (.bool x2) ∧ W.cell? ⟨b, 3, none⟩ = some (.bool x3) ∧ W.cell? ⟨b, 4, none⟩ = some (.bool x4) := by
  unfold F5 at h
  refine ⟨?_, ?_, ?_, ?_, ?_⟩ <;> simp [World.cell?, h]
theorem F5.f {W : World} {b : Nat} {x0 x1 x2 x3 x4 : Bool} (h : F5 W b x0 x1 x2 x3 x4) :
    W.frozen? ⟨b, 0, none⟩ = false ∧ W.frozen? ⟨b, 1, none⟩ = false ∧ W.frozen? ⟨b, 2, none⟩ = false ∧ W.frozen? ⟨b, 3, none⟩ = false ∧ W.frozen? ⟨b, 4, none⟩ = false := by
  unfold F5 at h
  refine ⟨?_, ?_, ?_, ?_, ?_⟩ <;> simp [World.frozen?, h]
theorem below_put {w W : World} {n p : Nat} {y0 y1 y2 y3 y4 : Bool} (h : Below n w W) (hp : n ≤ p) : Below n w (((((W.setCell ⟨p, 0, none⟩ (.bool y0)).setCell ⟨p, 1, none⟩ (.bool y1)).setCell ⟨p, 2, none⟩ (.bool y2)).setCell ⟨p, 3, none⟩ (.bool y3)).setCell ⟨p, 4, none⟩ (.bool y4)) :=
  ((((h.setCell (p := ⟨p, 0, none⟩) hp _).setCell (p := ⟨p, 1, none⟩) hp _).setCell (p := ⟨p, 2, none⟩) hp _).setCell (p := ⟨p, 3, none⟩) hp _).setCell (p := ⟨p, 4, none⟩) hp _
/-- What lies where flags are handed out: theirs, the result's block. -/
def Rt (w : World) (src : Nat) (x0 x1 x2 x3 x4 : Bool) (dst : Nat) (W : World) : Prop := F5 W src x0 x1 x2 x3 x4 ∧ (∃ y0 y1 y2 y3 y4, F5 W dst y0 y1 y2 y3 y4) ∧ Below w.heap.size w W
theorem Rt.drew {w : World} {src dst : Nat} {x0 x1 x2 x3 x4 : Bool} {W : World} (h : Rt w src x0 x1 x2 x3 x4 dst W) : Rt w src x0 x1 x2 x3 x4 dst W.drew := ⟨h.1, h.2.1, h.2.2.drew⟩
theorem Rt.put {w : World} {src dst : Nat} {x0 x1 x2 x3 x4 : Bool} {W : World} (h : Rt w src x0 x1 x2 x3 x4 dst W) (hd : w.heap.size ≤ dst) :
    Rt w src x0 x1 x2 x3 x4 dst (((((W.setCell ⟨dst, 0, none⟩ (.bool x0)).setCell ⟨dst, 1, none⟩ (.bool x1)).setCell ⟨dst, 2, none⟩ (.bool x2)).setCell ⟨dst, 3, none⟩ (.bool x3)).setCell ⟨dst, 4, none⟩ (.bool x4)) ∧ F5 (((((W.setCell ⟨dst, 0, none⟩ (.bool x0)).setCell ⟨dst, 1, none⟩ (.bool x1)).setCell ⟨dst, 2, none⟩ (.bool x2)).setCell ⟨dst, 3, none⟩ (.bool x3)).setCell ⟨dst, 4, none⟩ (.bool x4)) dst x0 x1 x2 x3 x4 := by
  obtain ⟨h1, ⟨y0, y1, y2, y3, y4, h2⟩, h3⟩ := h
  have hp : F5 (((((W.setCell ⟨dst, 0, none⟩ (.bool x0)).setCell ⟨dst, 1, none⟩ (.bool x1)).setCell ⟨dst, 2, none⟩ (.bool x2)).setCell ⟨dst, 3, none⟩ (.bool x3)).setCell ⟨dst, 4, none⟩ (.bool x4)) dst x0 x1 x2 x3 x4 := h2.put
  refine ⟨⟨?_, ⟨_, _, _, _, _, hp⟩, below_put h3 hd⟩, hp⟩
  by_cases e : src = dst
  · subst e; exact hp
  · exact h1.far5 e
end Go.Proofs.YtmfoeolllobidaaDoor
