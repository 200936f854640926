/- codes.Bytes. -/
import Derived.Test.YtaeehinlgmijgaaDoorDg
namespace Go.Proofs.YtaeehinlgmijgaaDoor
open Go.RowKit Go.Shelf
set_option linter.unusedVariables false
set_option linter.unusedSimpArgs false
attribute [local go_sem] Oper.semAt_some
/-- The map's bytes and the opcode. -/
def opB (f : Fm) : List Nat := if f.m = 1 then [15, f.o] else if f.m = 2 then [15, 56, f.o] else if f.m = 3 then [15, 58, f.o] else [f.o]
def bCells (l : List Nat) : Array Value := (l.map (fun x => Value.int .u8 (x : Nat))).toArray
/-- A slice of bytes in memory of its own. -/
def OwnB (n : Nat) (l : List Nat) (v : Value) (W : World) : Prop := ∃ g, v = .slice (some ⟨g, 0, none⟩) l.length l.length ∧ n ≤ g ∧ W.heap[g]? = some (.cells (bCells l) 5 (0, 0))
set_option maxHeartbeats 2000000 in
theorem by_1 (xp xm xo : Nat) (xl : Bool) (xd : Int) (xdo xcc : Nat) (xw : Int) (xk : Nat) (xi : Int) (x1 x2 x3 x4 : Bool) (w : World) (h1 : ((xm : Int) == 1) = true) :
    Calls Tryd.prog 16 #[.agg #[.int .u8 (xp : Nat), .int .u8 (xm : Nat), .int .u8 (xo : Nat), .bool xl, .int .i64 xd, .int .u8 (xdo : Nat), .int .u8 (xcc : Nat), .int .i64 xw, .int .u8 (xk : Nat), .int .i64 xi, .bool x1, .bool x2, .bool x3, .bool x4]] w fun e w' => (∃ v, e = .returned v ∧ OwnB w.heap.size [15, xo] v w') ∧ Below w.heap.size w w' := by
  go_enter Tryd.func16, Tryd.ntmps16
  go_wp
  go_ret
  refine ⟨⟨_, rfl, w.heap.size + 1, rfl, by omega, ?_⟩, ((Below.refl _ w).alloc (Nat.le_refl _) _).alloc (by simp) _⟩
  have := heap_alloc_last (w.alloc (.cells #[.int .u8 (xp : Nat), .int .u8 (xm : Nat), .int .u8 (xo : Nat), .bool xl, .int .i64 xd, .int .u8 (xdo : Nat), .int .u8 (xcc : Nat), .int .i64 xw, .int .u8 (xk : Nat), .int .i64 xi, .bool x1, .bool x2, .bool x3, .bool x4] 23)) (.cells (bCells [15, xo]) 5)
  simp only [World.size_alloc] at this
  exact this
set_option maxHeartbeats 2000000 in
theorem by_2 (xp xm xo : Nat) (xl : Bool) (xd : Int) (xdo xcc : Nat) (xw : Int) (xk : Nat) (xi : Int) (x1 x2 x3 x4 : Bool) (w : World) (h1 : ((xm : Int) == 1) = false) (h2 : ((xm : Int) == 2) = true) :
    Calls Tryd.prog 16 #[.agg #[.int .u8 (xp : Nat), .int .u8 (xm : Nat), .int .u8 (xo : Nat), .bool xl, .int .i64 xd, .int .u8 (xdo : Nat), .int .u8 (xcc : Nat), .int .i64 xw, .int .u8 (xk : Nat), .int .i64 xi, .bool x1, .bool x2, .bool x3, .bool x4]] w fun e w' => (∃ v, e = .returned v ∧ OwnB w.heap.size [15, 56, xo] v w') ∧ Below w.heap.size w w' := by
  go_enter Tryd.func16, Tryd.ntmps16
  go_wp
  go_ret
  refine ⟨⟨_, rfl, w.heap.size + 1, rfl, by omega, ?_⟩, ((Below.refl _ w).alloc (Nat.le_refl _) _).alloc (by simp) _⟩
  have := heap_alloc_last (w.alloc (.cells #[.int .u8 (xp : Nat), .int .u8 (xm : Nat), .int .u8 (xo : Nat), .bool xl, .int .i64 xd, .int .u8 (xdo : Nat), .int .u8 (xcc : Nat), .int .i64 xw, .int .u8 (xk : Nat), .int .i64 xi, .bool x1, .bool x2, .bool x3, .bool x4] 23)) (.cells (bCells [15, 56, xo]) 5)
  simp only [World.size_alloc] at this
  exact this
set_option maxHeartbeats 2000000 in
theorem by_3 (xp xm xo : Nat) (xl : Bool) (xd : Int) (xdo xcc : Nat) (xw : Int) (xk : Nat) (xi : Int) (x1 x2 x3 x4 : Bool) (w : World) (h1 : ((xm : Int) == 1) = false) (h2 : ((xm : Int) == 2) = false) (h3 : ((xm : Int) == 3) = true) :
    Calls Tryd.prog 16 #[.agg #[.int .u8 (xp : Nat), .int .u8 (xm : Nat), .int .u8 (xo : Nat), .bool xl, .int .i64 xd, .int .u8 (xdo : Nat), .int .u8 (xcc : Nat), .int .i64 xw, .int .u8 (xk : Nat), .int .i64 xi, .bool x1, .bool x2, .bool x3, .bool x4]] w fun e w' => (∃ v, e = .returned v ∧ OwnB w.heap.size [15, 58, xo] v w') ∧ Below w.heap.size w w' := by
  go_enter Tryd.func16, Tryd.ntmps16
  go_wp
  go_ret
  refine ⟨⟨_, rfl, w.heap.size + 1, rfl, by omega, ?_⟩, ((Below.refl _ w).alloc (Nat.le_refl _) _).alloc (by simp) _⟩
  have := heap_alloc_last (w.alloc (.cells #[.int .u8 (xp : Nat), .int .u8 (xm : Nat), .int .u8 (xo : Nat), .bool xl, .int .i64 xd, .int .u8 (xdo : Nat), .int .u8 (xcc : Nat), .int .i64 xw, .int .u8 (xk : Nat), .int .i64 xi, .bool x1, .bool x2, .bool x3, .bool x4] 23)) (.cells (bCells [15, 58, xo]) 5)
  simp only [World.size_alloc] at this
  exact this
set_option maxHeartbeats 2000000 in
theorem by_0 (xp xm xo : Nat) (xl : Bool) (xd : Int) (xdo xcc : Nat) (xw : Int) (xk : Nat) (xi : Int) (x1 x2 x3 x4 : Bool) (w : World) (h1 : ((xm : Int) == 1) = false) (h2 : ((xm : Int) == 2) = false) (h3 : ((xm : Int) == 3) = false) :
    Calls Tryd.prog 16 #[.agg #[.int .u8 (xp : Nat), .int .u8 (xm : Nat), .int .u8 (xo : Nat), .bool xl, .int .i64 xd, .int .u8 (xdo : Nat), .int .u8 (xcc : Nat), .int .i64 xw, .int .u8 (xk : Nat), .int .i64 xi, .bool x1, .bool x2, .bool x3, .bool x4]] w fun e w' => (∃ v, e = .returned v ∧ OwnB w.heap.size [xo] v w') ∧ Below w.heap.size w w' := by
  go_enter Tryd.func16, Tryd.ntmps16
  go_wp
  go_ret
  refine ⟨⟨_, rfl, w.heap.size + 1, rfl, by omega, ?_⟩, ((Below.refl _ w).alloc (Nat.le_refl _) _).alloc (by simp) _⟩
  have := heap_alloc_last (w.alloc (.cells #[.int .u8 (xp : Nat), .int .u8 (xm : Nat), .int .u8 (xo : Nat), .bool xl, .int .i64 xd, .int .u8 (xdo : Nat), .int .u8 (xcc : Nat), .int .i64 xw, .int .u8 (xk : Nat), .int .i64 xi, .bool x1, .bool x2, .bool x3, .bool x4] 23)) (.cells (bCells [xo]) 5)
  simp only [World.size_alloc] at this
  exact this
theorem bytes_any (f : Fm) (w : World) : Calls Tryd.prog 16 #[Fm.v f] w fun e w' => (∃ v, e = .returned v ∧ OwnB w.heap.size (opB f) v w') ∧ Below w.heap.size w w' := by
  unfold opB
  obtain ⟨xp, xm, xo, xl, xd, xdo, xcc, xw, xk, xi, x1, x2, x3, x4⟩ := f
  have hb : ∀ (k : Nat), ((xm : Int) == (k : Int)) = (xm == k) := fun k => eqB xm k
  show Calls _ _ _ _ fun e w' => (∃ v, e = .returned v ∧ OwnB w.heap.size (if xm = 1 then [15, xo] else if xm = 2 then [15, 56, xo] else if xm = 3 then [15, 58, xo] else [xo]) v w') ∧ _
  by_cases h1 : xm = 1
  · rw [if_pos h1]
    exact by_1 xp xm xo xl xd xdo xcc xw xk xi x1 x2 x3 x4 w ((hb 1).trans (beq_iff_eq.2 h1))
  rw [if_neg h1]
  by_cases h2 : xm = 2
  · rw [if_pos h2]
    exact by_2 xp xm xo xl xd xdo xcc xw xk xi x1 x2 x3 x4 w ((hb 1).trans (beq_eq_false_iff_ne.2 h1)) ((hb 2).trans (beq_iff_eq.2 h2))
  rw [if_neg h2]
  by_cases h3 : xm = 3
  · rw [if_pos h3]
    exact by_3 xp xm xo xl xd xdo xcc xw xk xi x1 x2 x3 x4 w ((hb 1).trans (beq_eq_false_iff_ne.2 h1)) ((hb 2).trans (beq_eq_false_iff_ne.2 h2)) ((hb 3).trans (beq_iff_eq.2 h3))
  rw [if_neg h3]
  exact by_0 xp xm xo xl xd xdo xcc xw xk xi x1 x2 x3 x4 w ((hb 1).trans (beq_eq_false_iff_ne.2 h1)) ((hb 2).trans (beq_eq_false_iff_ne.2 h2)) ((hb 3).trans (beq_eq_false_iff_ne.2 h3))
set_option maxHeartbeats 2000000 in
theorem rby_1 (xp xm xo : Nat) (xl : Bool) (xd : Int) (xdo xcc : Nat) (xw : Int) (xk : Nat) (xi : Int) (x1 x2 x3 x4 : Bool) (w : World) (h1 : ((xm : Int) == 1) = true) :
    Calls Tryd.prog 17 #[.agg #[.int .u8 (xp : Nat), .int .u8 (xm : Nat), .int .u8 (xo : Nat), .bool xl, .int .i64 xd, .int .u8 (xdo : Nat), .int .u8 (xcc : Nat), .int .i64 xw, .int .u8 (xk : Nat), .int .i64 xi, .bool x1, .bool x2, .bool x3, .bool x4]] w fun e w' => (∃ v, e = .returned v ∧ OwnB w.heap.size [15, xo] v w') ∧ Below w.heap.size w w' := by
  go_enter Tryd.func17, Tryd.ntmps17
  go_wp
  go_ret
  refine ⟨⟨_, rfl, w.heap.size + 1, rfl, by omega, ?_⟩, ((Below.refl _ w).alloc (Nat.le_refl _) _).alloc (by simp) _⟩
  have := heap_alloc_last (w.alloc (.cells #[.int .u8 (xp : Nat), .int .u8 (xm : Nat), .int .u8 (xo : Nat), .bool xl, .int .i64 xd, .int .u8 (xdo : Nat), .int .u8 (xcc : Nat), .int .i64 xw, .int .u8 (xk : Nat), .int .i64 xi, .bool x1, .bool x2, .bool x3, .bool x4] 23)) (.cells (bCells [15, xo]) 5)
  simp only [World.size_alloc] at this
  exact this
set_option maxHeartbeats 2000000 in
theorem rby_2 (xp xm xo : Nat) (xl : Bool) (xd : Int) (xdo xcc : Nat) (xw : Int) (xk : Nat) (xi : Int) (x1 x2 x3 x4 : Bool) (w : World) (h1 : ((xm : Int) == 1) = false) (h2 : ((xm : Int) == 2) = true) :
    Calls Tryd.prog 17 #[.agg #[.int .u8 (xp : Nat), .int .u8 (xm : Nat), .int .u8 (xo : Nat), .bool xl, .int .i64 xd, .int .u8 (xdo : Nat), .int .u8 (xcc : Nat), .int .i64 xw, .int .u8 (xk : Nat), .int .i64 xi, .bool x1, .bool x2, .bool x3, .bool x4]] w fun e w' => (∃ v, e = .returned v ∧ OwnB w.heap.size [15, 56, xo] v w') ∧ Below w.heap.size w w' := by
  go_enter Tryd.func17, Tryd.ntmps17
  go_wp
  go_ret
  refine ⟨⟨_, rfl, w.heap.size + 1, rfl, by omega, ?_⟩, ((Below.refl _ w).alloc (Nat.le_refl _) _).alloc (by simp) _⟩
  have := heap_alloc_last (w.alloc (.cells #[.int .u8 (xp : Nat), .int .u8 (xm : Nat), .int .u8 (xo : Nat), .bool xl, .int .i64 xd, .int .u8 (xdo : Nat), .int .u8 (xcc : Nat), .int .i64 xw, .int .u8 (xk : Nat), .int .i64 xi, .bool x1, .bool x2, .bool x3, .bool x4] 23)) (.cells (bCells [15, 56, xo]) 5)
  simp only [World.size_alloc] at this
  exact this
set_option maxHeartbeats 2000000 in
theorem rby_3 (xp xm xo : Nat) (xl : Bool) (xd : Int) (xdo xcc : Nat) (xw : Int) (xk : Nat) (xi : Int) (x1 x2 x3 x4 : Bool) (w : World) (h1 : ((xm : Int) == 1) = false) (h2 : ((xm : Int) == 2) = false) (h3 : ((xm : Int) == 3) = true) :
    Calls Tryd.prog 17 #[.agg #[.int .u8 (xp : Nat), .int .u8 (xm : Nat), .int .u8 (xo : Nat), .bool xl, .int .i64 xd, .int .u8 (xdo : Nat), .int .u8 (xcc : Nat), .int .i64 xw, .int .u8 (xk : Nat), .int .i64 xi, .bool x1, .bool x2, .bool x3, .bool x4]] w fun e w' => (∃ v, e = .returned v ∧ OwnB w.heap.size [15, 58, xo] v w') ∧ Below w.heap.size w w' := by
  go_enter Tryd.func17, Tryd.ntmps17
  go_wp
  go_ret
  refine ⟨⟨_, rfl, w.heap.size + 1, rfl, by omega, ?_⟩, ((Below.refl _ w).alloc (Nat.le_refl _) _).alloc (by simp) _⟩
  have := heap_alloc_last (w.alloc (.cells #[.int .u8 (xp : Nat), .int .u8 (xm : Nat), .int .u8 (xo : Nat), .bool xl, .int .i64 xd, .int .u8 (xdo : Nat), .int .u8 (xcc : Nat), .int .i64 xw, .int .u8 (xk : Nat), .int .i64 xi, .bool x1, .bool x2, .bool x3, .bool x4] 23)) (.cells (bCells [15, 58, xo]) 5)
  simp only [World.size_alloc] at this
  exact this
set_option maxHeartbeats 2000000 in
theorem rby_0 (xp xm xo : Nat) (xl : Bool) (xd : Int) (xdo xcc : Nat) (xw : Int) (xk : Nat) (xi : Int) (x1 x2 x3 x4 : Bool) (w : World) (h1 : ((xm : Int) == 1) = false) (h2 : ((xm : Int) == 2) = false) (h3 : ((xm : Int) == 3) = false) :
    Calls Tryd.prog 17 #[.agg #[.int .u8 (xp : Nat), .int .u8 (xm : Nat), .int .u8 (xo : Nat), .bool xl, .int .i64 xd, .int .u8 (xdo : Nat), .int .u8 (xcc : Nat), .int .i64 xw, .int .u8 (xk : Nat), .int .i64 xi, .bool x1, .bool x2, .bool x3, .bool x4]] w fun e w' => (∃ v, e = .returned v ∧ OwnB w.heap.size [xo] v w') ∧ Below w.heap.size w w' := by
  go_enter Tryd.func17, Tryd.ntmps17
  go_wp
  go_ret
  refine ⟨⟨_, rfl, w.heap.size + 1, rfl, by omega, ?_⟩, ((Below.refl _ w).alloc (Nat.le_refl _) _).alloc (by simp) _⟩
  have := heap_alloc_last (w.alloc (.cells #[.int .u8 (xp : Nat), .int .u8 (xm : Nat), .int .u8 (xo : Nat), .bool xl, .int .i64 xd, .int .u8 (xdo : Nat), .int .u8 (xcc : Nat), .int .i64 xw, .int .u8 (xk : Nat), .int .i64 xi, .bool x1, .bool x2, .bool x3, .bool x4] 23)) (.cells (bCells [xo]) 5)
  simp only [World.size_alloc] at this
  exact this
theorem rbytes_any (f : Fm) (w : World) : Calls Tryd.prog 17 #[Fm.v f] w fun e w' => (∃ v, e = .returned v ∧ OwnB w.heap.size (opB f) v w') ∧ Below w.heap.size w w' := by
  unfold opB
  obtain ⟨xp, xm, xo, xl, xd, xdo, xcc, xw, xk, xi, x1, x2, x3, x4⟩ := f
  have hb : ∀ (k : Nat), ((xm : Int) == (k : Int)) = (xm == k) := fun k => eqB xm k
  show Calls _ _ _ _ fun e w' => (∃ v, e = .returned v ∧ OwnB w.heap.size (if xm = 1 then [15, xo] else if xm = 2 then [15, 56, xo] else if xm = 3 then [15, 58, xo] else [xo]) v w') ∧ _
  by_cases h1 : xm = 1
  · rw [if_pos h1]
    exact rby_1 xp xm xo xl xd xdo xcc xw xk xi x1 x2 x3 x4 w ((hb 1).trans (beq_iff_eq.2 h1))
  rw [if_neg h1]
  by_cases h2 : xm = 2
  · rw [if_pos h2]
    exact rby_2 xp xm xo xl xd xdo xcc xw xk xi x1 x2 x3 x4 w ((hb 1).trans (beq_eq_false_iff_ne.2 h1)) ((hb 2).trans (beq_iff_eq.2 h2))
  rw [if_neg h2]
  by_cases h3 : xm = 3
  · rw [if_pos h3]
    exact rby_3 xp xm xo xl xd xdo xcc xw xk xi x1 x2 x3 x4 w ((hb 1).trans (beq_eq_false_iff_ne.2 h1)) ((hb 2).trans (beq_eq_false_iff_ne.2 h2)) ((hb 3).trans (beq_iff_eq.2 h3))
  rw [if_neg h3]
  exact rby_0 xp xm xo xl xd xdo xcc xw xk xi x1 x2 x3 x4 w ((hb 1).trans (beq_eq_false_iff_ne.2 h1)) ((hb 2).trans (beq_eq_false_iff_ne.2 h2)) ((hb 3).trans (beq_eq_false_iff_ne.2 h3))
end Go.Proofs.YtaeehinlgmijgaaDoor
