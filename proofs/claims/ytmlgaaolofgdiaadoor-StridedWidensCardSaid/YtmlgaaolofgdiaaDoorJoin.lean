/- strided.Join. -/
import Derived.Test.YtmlgaaolofgdiaaDoorSmall
namespace Go.Proofs.YtmlgaaolofgdiaaDoor
open Go.RowKit SM
set_option linter.unusedSimpArgs false
/-- Are two sets the same? -/
def eq3 (x0 x1 x2 y0 y1 y2 : Int) : Bool := x0 == y0 && (x1 == y1 && x2 == y2)
theorem eql_set (x0 x1 x2 y0 y1 y2 : Int) (w : World) : (binOp .eql 24 (.agg #[.int .u64 x0, .int .u64 x1, .int .u64 x2]) (.agg #[.int .u64 y0, .int .u64 y1, .int .u64 y2])).run Tryd.prog w = .ok (.bool (eq3 x0 x1 x2 y0 y1 y2)) w := by
  unfold eq3
  by_cases h0 : x0 = y0 <;> by_cases h1 : x1 = y1 <;> by_cases h2 : x2 = y2 <;> simp [go_sem, h0, h1, h2]
theorem neq_set (x0 x1 x2 y0 y1 y2 : Int) (w : World) : (binOp .neq 24 (.agg #[.int .u64 x0, .int .u64 x1, .int .u64 x2]) (.agg #[.int .u64 y0, .int .u64 y1, .int .u64 y2])).run Tryd.prog w = .ok (.bool (!eq3 x0 x1 x2 y0 y1 y2)) w := by
  unfold eq3
  by_cases h0 : x0 = y0 <;> by_cases h1 : x1 = y1 <;> by_cases h2 : x2 = y2 <;> simp [go_sem, h0, h1, h2]
theorem eq3_val (a b : St) : eq3 a.s a.l a.h b.s b.l b.h = decide (a = b) := by
  cases a; cases b
  rw [Bool.eq_iff_iff]; simp only [eq3, Bool.and_eq_true, beq_iff_eq, decide_eq_true_eq, St.mk.injEq]; omega
theorem eq3_none (s l h : Nat) (e : (⟨s, l, h⟩ : St) = noneS) : eq3 s l h 0 1 0 = true := by
  have := eq3_val ⟨s, l, h⟩ noneS; rw [decide_eq_true e] at this; exact this
theorem eq3_some (s l h : Nat) (e : (⟨s, l, h⟩ : St) ≠ noneS) : eq3 s l h 0 1 0 = false := by
  have := eq3_val ⟨s, l, h⟩ noneS; rw [decide_eq_false e] at this; exact this
attribute [local go_sem ↓] Go.wp_at_zero Go.wp_at_succ
attribute [local go_sem ↓ high] eql_set neq_set
/-- The greater one, the lesser one: words of their own, so that the walk leaves them as they are. -/
def mx (a b : Nat) : Nat := max a b
def mn (a b : Nat) : Nat := min a b
theorem mn_le (a b : Nat) : mn a b ≤ mx a b := by unfold mn mx; omega
theorem run_mx (w : World) (ts : Array TypeId) (t : TypeId) (a b : Nat) : (Builtin.max_ ts t #[.int .u64 (a : Int), .int .u64 (b : Int)]).run Tryd.prog w = .ok (.int .u64 (mx a b : Nat)) w := by
  rw [run_max_int2]; unfold mx
  congr 2
  rcases Nat.lt_or_ge a b with h | h
  · rw [if_pos (by omega), Nat.max_eq_right (Nat.le_of_lt h)]
  · rw [if_neg (by omega), Nat.max_eq_left h]
theorem run_mn (w : World) (ts : Array TypeId) (t : TypeId) (a b : Nat) : (Builtin.min_ ts t #[.int .u64 (a : Int), .int .u64 (b : Int)]).run Tryd.prog w = .ok (.int .u64 (mn a b : Nat)) w := by
  rw [run_min_int2]; unfold mn
  congr 2
  rcases Nat.lt_or_ge b a with h | h
  · rw [if_pos (by omega), Nat.min_eq_right (Nat.le_of_lt h)]
  · rw [if_neg (by omega), Nat.min_eq_left h]
attribute [local go_sem ↓ high] run_mx run_mn
abbrev z3 : Obj := .cells #[.int .u64 0, .int .u64 0, .int .u64 0] 24
theorem mk3 {w0 W : World} {n b c d : Nat} {v0 v1 v2 x0 x1 x2 y0 y1 y2 : Value} (h0 : Slot3 W b v0 v1 v2) (h1 : Slot3 W c x0 x1 x2) (h2 : Slot3 W d y0 y1 y2) (hb : Below n w0 W) :
    W.cell? ⟨b, 0, none⟩ = some v0 ∧ W.cell? ⟨b, 1, none⟩ = some v1 ∧ W.cell? ⟨b, 2, none⟩ = some v2 ∧ W.frozen? ⟨b, 0, none⟩ = false ∧ W.frozen? ⟨b, 1, none⟩ = false ∧ W.frozen? ⟨b, 2, none⟩ = false ∧ b < W.heap.size ∧ W.cell? ⟨c, 0, none⟩ = some x0 ∧ W.cell? ⟨c, 1, none⟩ = some x1 ∧ W.cell? ⟨c, 2, none⟩ = some x2 ∧ W.frozen? ⟨c, 0, none⟩ = false ∧ W.frozen? ⟨c, 1, none⟩ = false ∧ W.frozen? ⟨c, 2, none⟩ = false ∧ c < W.heap.size ∧ W.cell? ⟨d, 0, none⟩ = some y0 ∧ W.cell? ⟨d, 1, none⟩ = some y1 ∧ W.cell? ⟨d, 2, none⟩ = some y2 ∧ W.frozen? ⟨d, 0, none⟩ = false ∧ W.frozen? ⟨d, 1, none⟩ = false ∧ W.frozen? ⟨d, 2, none⟩ = false ∧ d < W.heap.size ∧ Below n w0 W := by
  obtain ⟨a00, a01, a02, a03, a04, a05, a06⟩ := h0
  obtain ⟨a10, a11, a12, a13, a14, a15, a16⟩ := h1
  obtain ⟨a20, a21, a22, a23, a24, a25, a26⟩ := h2
  exact ⟨a00, a01, a02, a03, a04, a05, a06, a10, a11, a12, a13, a14, a15, a16, a20, a21, a22, a23, a24, a25, a26, hb⟩
theorem keep3 {w0 W W' : World} {n b c d : Nat} {v0 v1 v2 x0 x1 x2 y0 y1 y2 : Value} (hb : Below W.heap.size W W') (hS : W.cell? ⟨b, 0, none⟩ = some v0 ∧ W.cell? ⟨b, 1, none⟩ = some v1 ∧ W.cell? ⟨b, 2, none⟩ = some v2 ∧ W.frozen? ⟨b, 0, none⟩ = false ∧ W.frozen? ⟨b, 1, none⟩ = false ∧ W.frozen? ⟨b, 2, none⟩ = false ∧ b < W.heap.size ∧ W.cell? ⟨c, 0, none⟩ = some x0 ∧ W.cell? ⟨c, 1, none⟩ = some x1 ∧ W.cell? ⟨c, 2, none⟩ = some x2 ∧ W.frozen? ⟨c, 0, none⟩ = false ∧ W.frozen? ⟨c, 1, none⟩ = false ∧ W.frozen? ⟨c, 2, none⟩ = false ∧ c < W.heap.size ∧ W.cell? ⟨d, 0, none⟩ = some y0 ∧ W.cell? ⟨d, 1, none⟩ = some y1 ∧ W.cell? ⟨d, 2, none⟩ = some y2 ∧ W.frozen? ⟨d, 0, none⟩ = false ∧ W.frozen? ⟨d, 1, none⟩ = false ∧ W.frozen? ⟨d, 2, none⟩ = false ∧ d < W.heap.size ∧ Below n w0 W) (hn : n ≤ w0.heap.size) :
    W'.cell? ⟨b, 0, none⟩ = some v0 ∧ W'.cell? ⟨b, 1, none⟩ = some v1 ∧ W'.cell? ⟨b, 2, none⟩ = some v2 ∧ W'.frozen? ⟨b, 0, none⟩ = false ∧ W'.frozen? ⟨b, 1, none⟩ = false ∧ W'.frozen? ⟨b, 2, none⟩ = false ∧ b < W'.heap.size ∧ W'.cell? ⟨c, 0, none⟩ = some x0 ∧ W'.cell? ⟨c, 1, none⟩ = some x1 ∧ W'.cell? ⟨c, 2, none⟩ = some x2 ∧ W'.frozen? ⟨c, 0, none⟩ = false ∧ W'.frozen? ⟨c, 1, none⟩ = false ∧ W'.frozen? ⟨c, 2, none⟩ = false ∧ c < W'.heap.size ∧ W'.cell? ⟨d, 0, none⟩ = some y0 ∧ W'.cell? ⟨d, 1, none⟩ = some y1 ∧ W'.cell? ⟨d, 2, none⟩ = some y2 ∧ W'.frozen? ⟨d, 0, none⟩ = false ∧ W'.frozen? ⟨d, 1, none⟩ = false ∧ W'.frozen? ⟨d, 2, none⟩ = false ∧ d < W'.heap.size ∧ Below n w0 W' := by
  obtain ⟨a00, a01, a02, a03, a04, a05, a06, a10, a11, a12, a13, a14, a15, a16, a20, a21, a22, a23, a24, a25, a26, hg⟩ := hS
  exact mk3 (Slot3.keep ⟨a00, a01, a02, a03, a04, a05, a06⟩ hb) (Slot3.keep ⟨a10, a11, a12, a13, a14, a15, a16⟩ hb) (Slot3.keep ⟨a20, a21, a22, a23, a24, a25, a26⟩ hb) (hg.trans (hb.mono (Nat.le_trans hn hg.size)))
theorem drew3 {w0 W : World} {n b c d : Nat} {v0 v1 v2 x0 x1 x2 y0 y1 y2 : Value} (hS : W.cell? ⟨b, 0, none⟩ = some v0 ∧ W.cell? ⟨b, 1, none⟩ = some v1 ∧ W.cell? ⟨b, 2, none⟩ = some v2 ∧ W.frozen? ⟨b, 0, none⟩ = false ∧ W.frozen? ⟨b, 1, none⟩ = false ∧ W.frozen? ⟨b, 2, none⟩ = false ∧ b < W.heap.size ∧ W.cell? ⟨c, 0, none⟩ = some x0 ∧ W.cell? ⟨c, 1, none⟩ = some x1 ∧ W.cell? ⟨c, 2, none⟩ = some x2 ∧ W.frozen? ⟨c, 0, none⟩ = false ∧ W.frozen? ⟨c, 1, none⟩ = false ∧ W.frozen? ⟨c, 2, none⟩ = false ∧ c < W.heap.size ∧ W.cell? ⟨d, 0, none⟩ = some y0 ∧ W.cell? ⟨d, 1, none⟩ = some y1 ∧ W.cell? ⟨d, 2, none⟩ = some y2 ∧ W.frozen? ⟨d, 0, none⟩ = false ∧ W.frozen? ⟨d, 1, none⟩ = false ∧ W.frozen? ⟨d, 2, none⟩ = false ∧ d < W.heap.size ∧ Below n w0 W) :
    W.drew.cell? ⟨b, 0, none⟩ = some v0 ∧ W.drew.cell? ⟨b, 1, none⟩ = some v1 ∧ W.drew.cell? ⟨b, 2, none⟩ = some v2 ∧ W.drew.frozen? ⟨b, 0, none⟩ = false ∧ W.drew.frozen? ⟨b, 1, none⟩ = false ∧ W.drew.frozen? ⟨b, 2, none⟩ = false ∧ b < W.drew.heap.size ∧ W.drew.cell? ⟨c, 0, none⟩ = some x0 ∧ W.drew.cell? ⟨c, 1, none⟩ = some x1 ∧ W.drew.cell? ⟨c, 2, none⟩ = some x2 ∧ W.drew.frozen? ⟨c, 0, none⟩ = false ∧ W.drew.frozen? ⟨c, 1, none⟩ = false ∧ W.drew.frozen? ⟨c, 2, none⟩ = false ∧ c < W.drew.heap.size ∧ W.drew.cell? ⟨d, 0, none⟩ = some y0 ∧ W.drew.cell? ⟨d, 1, none⟩ = some y1 ∧ W.drew.cell? ⟨d, 2, none⟩ = some y2 ∧ W.drew.frozen? ⟨d, 0, none⟩ = false ∧ W.drew.frozen? ⟨d, 1, none⟩ = false ∧ W.drew.frozen? ⟨d, 2, none⟩ = false ∧ d < W.drew.heap.size ∧ Below n w0 W.drew := by
  obtain ⟨a00, a01, a02, a03, a04, a05, a06, a10, a11, a12, a13, a14, a15, a16, a20, a21, a22, a23, a24, a25, a26, hg⟩ := hS
  exact mk3 (Slot3.drew ⟨a00, a01, a02, a03, a04, a05, a06⟩) (Slot3.drew ⟨a10, a11, a12, a13, a14, a15, a16⟩) (Slot3.drew ⟨a20, a21, a22, a23, a24, a25, a26⟩) hg.drew
theorem st3b {w0 W : World} {n b c d : Nat} {v0 v1 v2 x0 x1 x2 y0 y1 y2 : Value} (hS : W.cell? ⟨b, 0, none⟩ = some v0 ∧ W.cell? ⟨b, 1, none⟩ = some v1 ∧ W.cell? ⟨b, 2, none⟩ = some v2 ∧ W.frozen? ⟨b, 0, none⟩ = false ∧ W.frozen? ⟨b, 1, none⟩ = false ∧ W.frozen? ⟨b, 2, none⟩ = false ∧ b < W.heap.size ∧ W.cell? ⟨c, 0, none⟩ = some x0 ∧ W.cell? ⟨c, 1, none⟩ = some x1 ∧ W.cell? ⟨c, 2, none⟩ = some x2 ∧ W.frozen? ⟨c, 0, none⟩ = false ∧ W.frozen? ⟨c, 1, none⟩ = false ∧ W.frozen? ⟨c, 2, none⟩ = false ∧ c < W.heap.size ∧ W.cell? ⟨d, 0, none⟩ = some y0 ∧ W.cell? ⟨d, 1, none⟩ = some y1 ∧ W.cell? ⟨d, 2, none⟩ = some y2 ∧ W.frozen? ⟨d, 0, none⟩ = false ∧ W.frozen? ⟨d, 1, none⟩ = false ∧ W.frozen? ⟨d, 2, none⟩ = false ∧ d < W.heap.size ∧ Below n w0 W) :
    (((W.setCell ⟨b, 0, none⟩ v0).setCell ⟨b, 1, none⟩ v1).setCell ⟨b, 2, none⟩ v2).cell? ⟨b, 0, none⟩ = some v0 ∧ (((W.setCell ⟨b, 0, none⟩ v0).setCell ⟨b, 1, none⟩ v1).setCell ⟨b, 2, none⟩ v2).cell? ⟨b, 1, none⟩ = some v1 ∧ (((W.setCell ⟨b, 0, none⟩ v0).setCell ⟨b, 1, none⟩ v1).setCell ⟨b, 2, none⟩ v2).cell? ⟨b, 2, none⟩ = some v2 ∧ (((W.setCell ⟨b, 0, none⟩ v0).setCell ⟨b, 1, none⟩ v1).setCell ⟨b, 2, none⟩ v2).frozen? ⟨b, 0, none⟩ = false ∧ (((W.setCell ⟨b, 0, none⟩ v0).setCell ⟨b, 1, none⟩ v1).setCell ⟨b, 2, none⟩ v2).frozen? ⟨b, 1, none⟩ = false ∧ (((W.setCell ⟨b, 0, none⟩ v0).setCell ⟨b, 1, none⟩ v1).setCell ⟨b, 2, none⟩ v2).frozen? ⟨b, 2, none⟩ = false ∧ b < (((W.setCell ⟨b, 0, none⟩ v0).setCell ⟨b, 1, none⟩ v1).setCell ⟨b, 2, none⟩ v2).heap.size ∧ (((W.setCell ⟨b, 0, none⟩ v0).setCell ⟨b, 1, none⟩ v1).setCell ⟨b, 2, none⟩ v2).cell? ⟨c, 0, none⟩ = some x0 ∧ (((W.setCell ⟨b, 0, none⟩ v0).setCell ⟨b, 1, none⟩ v1).setCell ⟨b, 2, none⟩ v2).cell? ⟨c, 1, none⟩ = some x1 ∧ (((W.setCell ⟨b, 0, none⟩ v0).setCell ⟨b, 1, none⟩ v1).setCell ⟨b, 2, none⟩ v2).cell? ⟨c, 2, none⟩ = some x2 ∧ (((W.setCell ⟨b, 0, none⟩ v0).setCell ⟨b, 1, none⟩ v1).setCell ⟨b, 2, none⟩ v2).frozen? ⟨c, 0, none⟩ = false ∧ (((W.setCell ⟨b, 0, none⟩ v0).setCell ⟨b, 1, none⟩ v1).setCell ⟨b, 2, none⟩ v2).frozen? ⟨c, 1, none⟩ = false ∧ (((W.setCell ⟨b, 0, none⟩ v0).setCell ⟨b, 1, none⟩ v1).setCell ⟨b, 2, none⟩ v2).frozen? ⟨c, 2, none⟩ = false ∧ c < (((W.setCell ⟨b, 0, none⟩ v0).setCell ⟨b, 1, none⟩ v1).setCell ⟨b, 2, none⟩ v2).heap.size ∧ (((W.setCell ⟨b, 0, none⟩ v0).setCell ⟨b, 1, none⟩ v1).setCell ⟨b, 2, none⟩ v2).cell? ⟨d, 0, none⟩ = some y0 ∧ (((W.setCell ⟨b, 0, none⟩ v0).setCell ⟨b, 1, none⟩ v1).setCell ⟨b, 2, none⟩ v2).cell? ⟨d, 1, none⟩ = some y1 ∧ (((W.setCell ⟨b, 0, none⟩ v0).setCell ⟨b, 1, none⟩ v1).setCell ⟨b, 2, none⟩ v2).cell? ⟨d, 2, none⟩ = some y2 ∧ (((W.setCell ⟨b, 0, none⟩ v0).setCell ⟨b, 1, none⟩ v1).setCell ⟨b, 2, none⟩ v2).frozen? ⟨d, 0, none⟩ = false ∧ (((W.setCell ⟨b, 0, none⟩ v0).setCell ⟨b, 1, none⟩ v1).setCell ⟨b, 2, none⟩ v2).frozen? ⟨d, 1, none⟩ = false ∧ (((W.setCell ⟨b, 0, none⟩ v0).setCell ⟨b, 1, none⟩ v1).setCell ⟨b, 2, none⟩ v2).frozen? ⟨d, 2, none⟩ = false ∧ d < (((W.setCell ⟨b, 0, none⟩ v0).setCell ⟨b, 1, none⟩ v1).setCell ⟨b, 2, none⟩ v2).heap.size ∧ Below n w0 (((W.setCell ⟨b, 0, none⟩ v0).setCell ⟨b, 1, none⟩ v1).setCell ⟨b, 2, none⟩ v2) := by
  have e := hS
  obtain ⟨a00, a01, a02, a03, a04, a05, a06, a10, a11, a12, a13, a14, a15, a16, a20, a21, a22, a23, a24, a25, a26, hg⟩ := e
  rw [put_same a00 a01 a02]; exact hS
theorem st3c {w0 W : World} {n b c d : Nat} {v0 v1 v2 x0 x1 x2 y0 y1 y2 : Value} (hS : W.cell? ⟨b, 0, none⟩ = some v0 ∧ W.cell? ⟨b, 1, none⟩ = some v1 ∧ W.cell? ⟨b, 2, none⟩ = some v2 ∧ W.frozen? ⟨b, 0, none⟩ = false ∧ W.frozen? ⟨b, 1, none⟩ = false ∧ W.frozen? ⟨b, 2, none⟩ = false ∧ b < W.heap.size ∧ W.cell? ⟨c, 0, none⟩ = some x0 ∧ W.cell? ⟨c, 1, none⟩ = some x1 ∧ W.cell? ⟨c, 2, none⟩ = some x2 ∧ W.frozen? ⟨c, 0, none⟩ = false ∧ W.frozen? ⟨c, 1, none⟩ = false ∧ W.frozen? ⟨c, 2, none⟩ = false ∧ c < W.heap.size ∧ W.cell? ⟨d, 0, none⟩ = some y0 ∧ W.cell? ⟨d, 1, none⟩ = some y1 ∧ W.cell? ⟨d, 2, none⟩ = some y2 ∧ W.frozen? ⟨d, 0, none⟩ = false ∧ W.frozen? ⟨d, 1, none⟩ = false ∧ W.frozen? ⟨d, 2, none⟩ = false ∧ d < W.heap.size ∧ Below n w0 W) :
    (((W.setCell ⟨c, 0, none⟩ x0).setCell ⟨c, 1, none⟩ x1).setCell ⟨c, 2, none⟩ x2).cell? ⟨b, 0, none⟩ = some v0 ∧ (((W.setCell ⟨c, 0, none⟩ x0).setCell ⟨c, 1, none⟩ x1).setCell ⟨c, 2, none⟩ x2).cell? ⟨b, 1, none⟩ = some v1 ∧ (((W.setCell ⟨c, 0, none⟩ x0).setCell ⟨c, 1, none⟩ x1).setCell ⟨c, 2, none⟩ x2).cell? ⟨b, 2, none⟩ = some v2 ∧ (((W.setCell ⟨c, 0, none⟩ x0).setCell ⟨c, 1, none⟩ x1).setCell ⟨c, 2, none⟩ x2).frozen? ⟨b, 0, none⟩ = false ∧ (((W.setCell ⟨c, 0, none⟩ x0).setCell ⟨c, 1, none⟩ x1).setCell ⟨c, 2, none⟩ x2).frozen? ⟨b, 1, none⟩ = false ∧ (((W.setCell ⟨c, 0, none⟩ x0).setCell ⟨c, 1, none⟩ x1).setCell ⟨c, 2, none⟩ x2).frozen? ⟨b, 2, none⟩ = false ∧ b < (((W.setCell ⟨c, 0, none⟩ x0).setCell ⟨c, 1, none⟩ x1).setCell ⟨c, 2, none⟩ x2).heap.size ∧ (((W.setCell ⟨c, 0, none⟩ x0).setCell ⟨c, 1, none⟩ x1).setCell ⟨c, 2, none⟩ x2).cell? ⟨c, 0, none⟩ = some x0 ∧ (((W.setCell ⟨c, 0, none⟩ x0).setCell ⟨c, 1, none⟩ x1).setCell ⟨c, 2, none⟩ x2).cell? ⟨c, 1, none⟩ = some x1 ∧ (((W.setCell ⟨c, 0, none⟩ x0).setCell ⟨c, 1, none⟩ x1).setCell ⟨c, 2, none⟩ x2).cell? ⟨c, 2, none⟩ = some x2 ∧ (((W.setCell ⟨c, 0, none⟩ x0).setCell ⟨c, 1, none⟩ x1).setCell ⟨c, 2, none⟩ x2).frozen? ⟨c, 0, none⟩ = false ∧ (((W.setCell ⟨c, 0, none⟩ x0).setCell ⟨c, 1, none⟩ x1).setCell ⟨c, 2, none⟩ x2).frozen? ⟨c, 1, none⟩ = false ∧ (((W.setCell ⟨c, 0, none⟩ x0).setCell ⟨c, 1, none⟩ x1).setCell ⟨c, 2, none⟩ x2).frozen? ⟨c, 2, none⟩ = false ∧ c < (((W.setCell ⟨c, 0, none⟩ x0).setCell ⟨c, 1, none⟩ x1).setCell ⟨c, 2, none⟩ x2).heap.size ∧ (((W.setCell ⟨c, 0, none⟩ x0).setCell ⟨c, 1, none⟩ x1).setCell ⟨c, 2, none⟩ x2).cell? ⟨d, 0, none⟩ = some y0 ∧ (((W.setCell ⟨c, 0, none⟩ x0).setCell ⟨c, 1, none⟩ x1).setCell ⟨c, 2, none⟩ x2).cell? ⟨d, 1, none⟩ = some y1 ∧ (((W.setCell ⟨c, 0, none⟩ x0).setCell ⟨c, 1, none⟩ x1).setCell ⟨c, 2, none⟩ x2).cell? ⟨d, 2, none⟩ = some y2 ∧ (((W.setCell ⟨c, 0, none⟩ x0).setCell ⟨c, 1, none⟩ x1).setCell ⟨c, 2, none⟩ x2).frozen? ⟨d, 0, none⟩ = false ∧ (((W.setCell ⟨c, 0, none⟩ x0).setCell ⟨c, 1, none⟩ x1).setCell ⟨c, 2, none⟩ x2).frozen? ⟨d, 1, none⟩ = false ∧ (((W.setCell ⟨c, 0, none⟩ x0).setCell ⟨c, 1, none⟩ x1).setCell ⟨c, 2, none⟩ x2).frozen? ⟨d, 2, none⟩ = false ∧ d < (((W.setCell ⟨c, 0, none⟩ x0).setCell ⟨c, 1, none⟩ x1).setCell ⟨c, 2, none⟩ x2).heap.size ∧ Below n w0 (((W.setCell ⟨c, 0, none⟩ x0).setCell ⟨c, 1, none⟩ x1).setCell ⟨c, 2, none⟩ x2) := by
  have e := hS
  obtain ⟨a00, a01, a02, a03, a04, a05, a06, a10, a11, a12, a13, a14, a15, a16, a20, a21, a22, a23, a24, a25, a26, hg⟩ := e
  rw [put_same a10 a11 a12]; exact hS
theorem st3d {w0 W : World} {n b c d : Nat} {v0 v1 v2 x0 x1 x2 y0 y1 y2 : Value} (hS : W.cell? ⟨b, 0, none⟩ = some v0 ∧ W.cell? ⟨b, 1, none⟩ = some v1 ∧ W.cell? ⟨b, 2, none⟩ = some v2 ∧ W.frozen? ⟨b, 0, none⟩ = false ∧ W.frozen? ⟨b, 1, none⟩ = false ∧ W.frozen? ⟨b, 2, none⟩ = false ∧ b < W.heap.size ∧ W.cell? ⟨c, 0, none⟩ = some x0 ∧ W.cell? ⟨c, 1, none⟩ = some x1 ∧ W.cell? ⟨c, 2, none⟩ = some x2 ∧ W.frozen? ⟨c, 0, none⟩ = false ∧ W.frozen? ⟨c, 1, none⟩ = false ∧ W.frozen? ⟨c, 2, none⟩ = false ∧ c < W.heap.size ∧ W.cell? ⟨d, 0, none⟩ = some y0 ∧ W.cell? ⟨d, 1, none⟩ = some y1 ∧ W.cell? ⟨d, 2, none⟩ = some y2 ∧ W.frozen? ⟨d, 0, none⟩ = false ∧ W.frozen? ⟨d, 1, none⟩ = false ∧ W.frozen? ⟨d, 2, none⟩ = false ∧ d < W.heap.size ∧ Below n w0 W) :
    (((W.setCell ⟨d, 0, none⟩ y0).setCell ⟨d, 1, none⟩ y1).setCell ⟨d, 2, none⟩ y2).cell? ⟨b, 0, none⟩ = some v0 ∧ (((W.setCell ⟨d, 0, none⟩ y0).setCell ⟨d, 1, none⟩ y1).setCell ⟨d, 2, none⟩ y2).cell? ⟨b, 1, none⟩ = some v1 ∧ (((W.setCell ⟨d, 0, none⟩ y0).setCell ⟨d, 1, none⟩ y1).setCell ⟨d, 2, none⟩ y2).cell? ⟨b, 2, none⟩ = some v2 ∧ (((W.setCell ⟨d, 0, none⟩ y0).setCell ⟨d, 1, none⟩ y1).setCell ⟨d, 2, none⟩ y2).frozen? ⟨b, 0, none⟩ = false ∧ (((W.setCell ⟨d, 0, none⟩ y0).setCell ⟨d, 1, none⟩ y1).setCell ⟨d, 2, none⟩ y2).frozen? ⟨b, 1, none⟩ = false ∧ (((W.setCell ⟨d, 0, none⟩ y0).setCell ⟨d, 1, none⟩ y1).setCell ⟨d, 2, none⟩ y2).frozen? ⟨b, 2, none⟩ = false ∧ b < (((W.setCell ⟨d, 0, none⟩ y0).setCell ⟨d, 1, none⟩ y1).setCell ⟨d, 2, none⟩ y2).heap.size ∧ (((W.setCell ⟨d, 0, none⟩ y0).setCell ⟨d, 1, none⟩ y1).setCell ⟨d, 2, none⟩ y2).cell? ⟨c, 0, none⟩ = some x0 ∧ (((W.setCell ⟨d, 0, none⟩ y0).setCell ⟨d, 1, none⟩ y1).setCell ⟨d, 2, none⟩ y2).cell? ⟨c, 1, none⟩ = some x1 ∧ (((W.setCell ⟨d, 0, none⟩ y0).setCell ⟨d, 1, none⟩ y1).setCell ⟨d, 2, none⟩ y2).cell? ⟨c, 2, none⟩ = some x2 ∧ (((W.setCell ⟨d, 0, none⟩ y0).setCell ⟨d, 1, none⟩ y1).setCell ⟨d, 2, none⟩ y2).frozen? ⟨c, 0, none⟩ = false ∧ (((W.setCell ⟨d, 0, none⟩ y0).setCell ⟨d, 1, none⟩ y1).setCell ⟨d, 2, none⟩ y2).frozen? ⟨c, 1, none⟩ = false ∧ (((W.setCell ⟨d, 0, none⟩ y0).setCell ⟨d, 1, none⟩ y1).setCell ⟨d, 2, none⟩ y2).frozen? ⟨c, 2, none⟩ = false ∧ c < (((W.setCell ⟨d, 0, none⟩ y0).setCell ⟨d, 1, none⟩ y1).setCell ⟨d, 2, none⟩ y2).heap.size ∧ (((W.setCell ⟨d, 0, none⟩ y0).setCell ⟨d, 1, none⟩ y1).setCell ⟨d, 2, none⟩ y2).cell? ⟨d, 0, none⟩ = some y0 ∧ (((W.setCell ⟨d, 0, none⟩ y0).setCell ⟨d, 1, none⟩ y1).setCell ⟨d, 2, none⟩ y2).cell? ⟨d, 1, none⟩ = some y1 ∧ (((W.setCell ⟨d, 0, none⟩ y0).setCell ⟨d, 1, none⟩ y1).setCell ⟨d, 2, none⟩ y2).cell? ⟨d, 2, none⟩ = some y2 ∧ (((W.setCell ⟨d, 0, none⟩ y0).setCell ⟨d, 1, none⟩ y1).setCell ⟨d, 2, none⟩ y2).frozen? ⟨d, 0, none⟩ = false ∧ (((W.setCell ⟨d, 0, none⟩ y0).setCell ⟨d, 1, none⟩ y1).setCell ⟨d, 2, none⟩ y2).frozen? ⟨d, 1, none⟩ = false ∧ (((W.setCell ⟨d, 0, none⟩ y0).setCell ⟨d, 1, none⟩ y1).setCell ⟨d, 2, none⟩ y2).frozen? ⟨d, 2, none⟩ = false ∧ d < (((W.setCell ⟨d, 0, none⟩ y0).setCell ⟨d, 1, none⟩ y1).setCell ⟨d, 2, none⟩ y2).heap.size ∧ Below n w0 (((W.setCell ⟨d, 0, none⟩ y0).setCell ⟨d, 1, none⟩ y1).setCell ⟨d, 2, none⟩ y2) := by
  have e := hS
  obtain ⟨a00, a01, a02, a03, a04, a05, a06, a10, a11, a12, a13, a14, a15, a16, a20, a21, a22, a23, a24, a25, a26, hg⟩ := e
  rw [put_same a20 a21 a22]; exact hS
/-- What a cell holds. -/
def cellv (W : World) (b i : Nat) : Value := (W.cell? ⟨b, i, none⟩).getD undef
theorem cellv_of {W : World} {b i : Nat} {v : Value} (h : W.cell? ⟨b, i, none⟩ = some v) : W.cell? ⟨b, i, none⟩ = some (cellv W b i) := by
  unfold cellv; rw [h]; rfl
theorem mkR {w0 W : World} {n b c d : Nat} {v0 v1 v2 x0 x1 x2 : Value} (h0 : Slot3 W b v0 v1 v2) (h1 : Slot3 W c x0 x1 x2) {y0 y1 y2 : Value} (h2 : Slot3 W d y0 y1 y2) (hb : Below n w0 W) :
    W.cell? ⟨b, 0, none⟩ = some v0 ∧ W.cell? ⟨b, 1, none⟩ = some v1 ∧ W.cell? ⟨b, 2, none⟩ = some v2 ∧ W.frozen? ⟨b, 0, none⟩ = false ∧ W.frozen? ⟨b, 1, none⟩ = false ∧ W.frozen? ⟨b, 2, none⟩ = false ∧ b < W.heap.size ∧ W.cell? ⟨c, 0, none⟩ = some x0 ∧ W.cell? ⟨c, 1, none⟩ = some x1 ∧ W.cell? ⟨c, 2, none⟩ = some x2 ∧ W.frozen? ⟨c, 0, none⟩ = false ∧ W.frozen? ⟨c, 1, none⟩ = false ∧ W.frozen? ⟨c, 2, none⟩ = false ∧ c < W.heap.size ∧ W.cell? ⟨d, 0, none⟩ = some (cellv W (d) 0) ∧ W.cell? ⟨d, 1, none⟩ = some (cellv W (d) 1) ∧ W.cell? ⟨d, 2, none⟩ = some (cellv W (d) 2) ∧ W.frozen? ⟨d, 0, none⟩ = false ∧ W.frozen? ⟨d, 1, none⟩ = false ∧ W.frozen? ⟨d, 2, none⟩ = false ∧ d < W.heap.size ∧ Below n w0 W := by
  obtain ⟨a00, a01, a02, a03, a04, a05, a06⟩ := h0
  obtain ⟨a10, a11, a12, a13, a14, a15, a16⟩ := h1
  obtain ⟨a20, a21, a22, a23, a24, a25, a26⟩ := h2
  exact ⟨a00, a01, a02, a03, a04, a05, a06, a10, a11, a12, a13, a14, a15, a16, cellv_of a20, cellv_of a21, cellv_of a22, a23, a24, a25, a26, hb⟩
theorem keepR3 {w0 W W' : World} {n b c d : Nat} {v0 v1 v2 x0 x1 x2 : Value} (hb : Below W.heap.size W W') (hS : W.cell? ⟨b, 0, none⟩ = some v0 ∧ W.cell? ⟨b, 1, none⟩ = some v1 ∧ W.cell? ⟨b, 2, none⟩ = some v2 ∧ W.frozen? ⟨b, 0, none⟩ = false ∧ W.frozen? ⟨b, 1, none⟩ = false ∧ W.frozen? ⟨b, 2, none⟩ = false ∧ b < W.heap.size ∧ W.cell? ⟨c, 0, none⟩ = some x0 ∧ W.cell? ⟨c, 1, none⟩ = some x1 ∧ W.cell? ⟨c, 2, none⟩ = some x2 ∧ W.frozen? ⟨c, 0, none⟩ = false ∧ W.frozen? ⟨c, 1, none⟩ = false ∧ W.frozen? ⟨c, 2, none⟩ = false ∧ c < W.heap.size ∧ W.cell? ⟨d, 0, none⟩ = some (cellv W (d) 0) ∧ W.cell? ⟨d, 1, none⟩ = some (cellv W (d) 1) ∧ W.cell? ⟨d, 2, none⟩ = some (cellv W (d) 2) ∧ W.frozen? ⟨d, 0, none⟩ = false ∧ W.frozen? ⟨d, 1, none⟩ = false ∧ W.frozen? ⟨d, 2, none⟩ = false ∧ d < W.heap.size ∧ Below n w0 W) (hn : n ≤ w0.heap.size) :
    W'.cell? ⟨b, 0, none⟩ = some v0 ∧ W'.cell? ⟨b, 1, none⟩ = some v1 ∧ W'.cell? ⟨b, 2, none⟩ = some v2 ∧ W'.frozen? ⟨b, 0, none⟩ = false ∧ W'.frozen? ⟨b, 1, none⟩ = false ∧ W'.frozen? ⟨b, 2, none⟩ = false ∧ b < W'.heap.size ∧ W'.cell? ⟨c, 0, none⟩ = some x0 ∧ W'.cell? ⟨c, 1, none⟩ = some x1 ∧ W'.cell? ⟨c, 2, none⟩ = some x2 ∧ W'.frozen? ⟨c, 0, none⟩ = false ∧ W'.frozen? ⟨c, 1, none⟩ = false ∧ W'.frozen? ⟨c, 2, none⟩ = false ∧ c < W'.heap.size ∧ W'.cell? ⟨d, 0, none⟩ = some (cellv W' (d) 0) ∧ W'.cell? ⟨d, 1, none⟩ = some (cellv W' (d) 1) ∧ W'.cell? ⟨d, 2, none⟩ = some (cellv W' (d) 2) ∧ W'.frozen? ⟨d, 0, none⟩ = false ∧ W'.frozen? ⟨d, 1, none⟩ = false ∧ W'.frozen? ⟨d, 2, none⟩ = false ∧ d < W'.heap.size ∧ Below n w0 W' := by
  obtain ⟨a00, a01, a02, a03, a04, a05, a06, a10, a11, a12, a13, a14, a15, a16, a20, a21, a22, a23, a24, a25, a26, hg⟩ := hS
  exact mkR (Slot3.keep ⟨a00, a01, a02, a03, a04, a05, a06⟩ hb) (Slot3.keep ⟨a10, a11, a12, a13, a14, a15, a16⟩ hb) (Slot3.keep ⟨a20, a21, a22, a23, a24, a25, a26⟩ hb) (hg.trans (hb.mono (Nat.le_trans hn hg.size)))
theorem drewR {w0 W : World} {n b c d : Nat} {v0 v1 v2 x0 x1 x2 : Value} (hS : W.cell? ⟨b, 0, none⟩ = some v0 ∧ W.cell? ⟨b, 1, none⟩ = some v1 ∧ W.cell? ⟨b, 2, none⟩ = some v2 ∧ W.frozen? ⟨b, 0, none⟩ = false ∧ W.frozen? ⟨b, 1, none⟩ = false ∧ W.frozen? ⟨b, 2, none⟩ = false ∧ b < W.heap.size ∧ W.cell? ⟨c, 0, none⟩ = some x0 ∧ W.cell? ⟨c, 1, none⟩ = some x1 ∧ W.cell? ⟨c, 2, none⟩ = some x2 ∧ W.frozen? ⟨c, 0, none⟩ = false ∧ W.frozen? ⟨c, 1, none⟩ = false ∧ W.frozen? ⟨c, 2, none⟩ = false ∧ c < W.heap.size ∧ W.cell? ⟨d, 0, none⟩ = some (cellv W (d) 0) ∧ W.cell? ⟨d, 1, none⟩ = some (cellv W (d) 1) ∧ W.cell? ⟨d, 2, none⟩ = some (cellv W (d) 2) ∧ W.frozen? ⟨d, 0, none⟩ = false ∧ W.frozen? ⟨d, 1, none⟩ = false ∧ W.frozen? ⟨d, 2, none⟩ = false ∧ d < W.heap.size ∧ Below n w0 W) :
    W.drew.cell? ⟨b, 0, none⟩ = some v0 ∧ W.drew.cell? ⟨b, 1, none⟩ = some v1 ∧ W.drew.cell? ⟨b, 2, none⟩ = some v2 ∧ W.drew.frozen? ⟨b, 0, none⟩ = false ∧ W.drew.frozen? ⟨b, 1, none⟩ = false ∧ W.drew.frozen? ⟨b, 2, none⟩ = false ∧ b < W.drew.heap.size ∧ W.drew.cell? ⟨c, 0, none⟩ = some x0 ∧ W.drew.cell? ⟨c, 1, none⟩ = some x1 ∧ W.drew.cell? ⟨c, 2, none⟩ = some x2 ∧ W.drew.frozen? ⟨c, 0, none⟩ = false ∧ W.drew.frozen? ⟨c, 1, none⟩ = false ∧ W.drew.frozen? ⟨c, 2, none⟩ = false ∧ c < W.drew.heap.size ∧ W.drew.cell? ⟨d, 0, none⟩ = some (cellv W.drew (d) 0) ∧ W.drew.cell? ⟨d, 1, none⟩ = some (cellv W.drew (d) 1) ∧ W.drew.cell? ⟨d, 2, none⟩ = some (cellv W.drew (d) 2) ∧ W.drew.frozen? ⟨d, 0, none⟩ = false ∧ W.drew.frozen? ⟨d, 1, none⟩ = false ∧ W.drew.frozen? ⟨d, 2, none⟩ = false ∧ d < W.drew.heap.size ∧ Below n w0 W.drew := by
  obtain ⟨a00, a01, a02, a03, a04, a05, a06, a10, a11, a12, a13, a14, a15, a16, a20, a21, a22, a23, a24, a25, a26, hg⟩ := hS
  exact mkR (Slot3.drew ⟨a00, a01, a02, a03, a04, a05, a06⟩) (Slot3.drew ⟨a10, a11, a12, a13, a14, a15, a16⟩) (Slot3.drew ⟨a20, a21, a22, a23, a24, a25, a26⟩) hg.drew
theorem stR {w0 W : World} {n b c d : Nat} {v0 v1 v2 x0 x1 x2 : Value} {y0 y1 y2 : Value} (hbd : d ≠ b) (hcd : d ≠ c) (hn : n ≤ d) (hS : W.cell? ⟨b, 0, none⟩ = some v0 ∧ W.cell? ⟨b, 1, none⟩ = some v1 ∧ W.cell? ⟨b, 2, none⟩ = some v2 ∧ W.frozen? ⟨b, 0, none⟩ = false ∧ W.frozen? ⟨b, 1, none⟩ = false ∧ W.frozen? ⟨b, 2, none⟩ = false ∧ b < W.heap.size ∧ W.cell? ⟨c, 0, none⟩ = some x0 ∧ W.cell? ⟨c, 1, none⟩ = some x1 ∧ W.cell? ⟨c, 2, none⟩ = some x2 ∧ W.frozen? ⟨c, 0, none⟩ = false ∧ W.frozen? ⟨c, 1, none⟩ = false ∧ W.frozen? ⟨c, 2, none⟩ = false ∧ c < W.heap.size ∧ W.cell? ⟨d, 0, none⟩ = some (cellv W (d) 0) ∧ W.cell? ⟨d, 1, none⟩ = some (cellv W (d) 1) ∧ W.cell? ⟨d, 2, none⟩ = some (cellv W (d) 2) ∧ W.frozen? ⟨d, 0, none⟩ = false ∧ W.frozen? ⟨d, 1, none⟩ = false ∧ W.frozen? ⟨d, 2, none⟩ = false ∧ d < W.heap.size ∧ Below n w0 W) :
    (((W.setCell ⟨d, 0, none⟩ y0).setCell ⟨d, 1, none⟩ y1).setCell ⟨d, 2, none⟩ y2).cell? ⟨b, 0, none⟩ = some v0 ∧ (((W.setCell ⟨d, 0, none⟩ y0).setCell ⟨d, 1, none⟩ y1).setCell ⟨d, 2, none⟩ y2).cell? ⟨b, 1, none⟩ = some v1 ∧ (((W.setCell ⟨d, 0, none⟩ y0).setCell ⟨d, 1, none⟩ y1).setCell ⟨d, 2, none⟩ y2).cell? ⟨b, 2, none⟩ = some v2 ∧ (((W.setCell ⟨d, 0, none⟩ y0).setCell ⟨d, 1, none⟩ y1).setCell ⟨d, 2, none⟩ y2).frozen? ⟨b, 0, none⟩ = false ∧ (((W.setCell ⟨d, 0, none⟩ y0).setCell ⟨d, 1, none⟩ y1).setCell ⟨d, 2, none⟩ y2).frozen? ⟨b, 1, none⟩ = false ∧ (((W.setCell ⟨d, 0, none⟩ y0).setCell ⟨d, 1, none⟩ y1).setCell ⟨d, 2, none⟩ y2).frozen? ⟨b, 2, none⟩ = false ∧ b < (((W.setCell ⟨d, 0, none⟩ y0).setCell ⟨d, 1, none⟩ y1).setCell ⟨d, 2, none⟩ y2).heap.size ∧ (((W.setCell ⟨d, 0, none⟩ y0).setCell ⟨d, 1, none⟩ y1).setCell ⟨d, 2, none⟩ y2).cell? ⟨c, 0, none⟩ = some x0 ∧ (((W.setCell ⟨d, 0, none⟩ y0).setCell ⟨d, 1, none⟩ y1).setCell ⟨d, 2, none⟩ y2).cell? ⟨c, 1, none⟩ = some x1 ∧ (((W.setCell ⟨d, 0, none⟩ y0).setCell ⟨d, 1, none⟩ y1).setCell ⟨d, 2, none⟩ y2).cell? ⟨c, 2, none⟩ = some x2 ∧ (((W.setCell ⟨d, 0, none⟩ y0).setCell ⟨d, 1, none⟩ y1).setCell ⟨d, 2, none⟩ y2).frozen? ⟨c, 0, none⟩ = false ∧ (((W.setCell ⟨d, 0, none⟩ y0).setCell ⟨d, 1, none⟩ y1).setCell ⟨d, 2, none⟩ y2).frozen? ⟨c, 1, none⟩ = false ∧ (((W.setCell ⟨d, 0, none⟩ y0).setCell ⟨d, 1, none⟩ y1).setCell ⟨d, 2, none⟩ y2).frozen? ⟨c, 2, none⟩ = false ∧ c < (((W.setCell ⟨d, 0, none⟩ y0).setCell ⟨d, 1, none⟩ y1).setCell ⟨d, 2, none⟩ y2).heap.size ∧ (((W.setCell ⟨d, 0, none⟩ y0).setCell ⟨d, 1, none⟩ y1).setCell ⟨d, 2, none⟩ y2).cell? ⟨d, 0, none⟩ = some (cellv (((W.setCell ⟨d, 0, none⟩ y0).setCell ⟨d, 1, none⟩ y1).setCell ⟨d, 2, none⟩ y2) (d) 0) ∧ (((W.setCell ⟨d, 0, none⟩ y0).setCell ⟨d, 1, none⟩ y1).setCell ⟨d, 2, none⟩ y2).cell? ⟨d, 1, none⟩ = some (cellv (((W.setCell ⟨d, 0, none⟩ y0).setCell ⟨d, 1, none⟩ y1).setCell ⟨d, 2, none⟩ y2) (d) 1) ∧ (((W.setCell ⟨d, 0, none⟩ y0).setCell ⟨d, 1, none⟩ y1).setCell ⟨d, 2, none⟩ y2).cell? ⟨d, 2, none⟩ = some (cellv (((W.setCell ⟨d, 0, none⟩ y0).setCell ⟨d, 1, none⟩ y1).setCell ⟨d, 2, none⟩ y2) (d) 2) ∧ (((W.setCell ⟨d, 0, none⟩ y0).setCell ⟨d, 1, none⟩ y1).setCell ⟨d, 2, none⟩ y2).frozen? ⟨d, 0, none⟩ = false ∧ (((W.setCell ⟨d, 0, none⟩ y0).setCell ⟨d, 1, none⟩ y1).setCell ⟨d, 2, none⟩ y2).frozen? ⟨d, 1, none⟩ = false ∧ (((W.setCell ⟨d, 0, none⟩ y0).setCell ⟨d, 1, none⟩ y1).setCell ⟨d, 2, none⟩ y2).frozen? ⟨d, 2, none⟩ = false ∧ d < (((W.setCell ⟨d, 0, none⟩ y0).setCell ⟨d, 1, none⟩ y1).setCell ⟨d, 2, none⟩ y2).heap.size ∧ Below n w0 (((W.setCell ⟨d, 0, none⟩ y0).setCell ⟨d, 1, none⟩ y1).setCell ⟨d, 2, none⟩ y2) := by
  obtain ⟨a00, a01, a02, a03, a04, a05, a06, a10, a11, a12, a13, a14, a15, a16, a20, a21, a22, a23, a24, a25, a26, hg⟩ := hS
  exact mkR (Slot3.far ⟨a00, a01, a02, a03, a04, a05, a06⟩ hbd _ _ _) (Slot3.far ⟨a10, a11, a12, a13, a14, a15, a16⟩ hcd _ _ _) (Slot3.put ⟨a20, a21, a22, a23, a24, a25, a26⟩ _ _ _) (((hg.setCell (p := ⟨d, 0, none⟩) hn _).setCell (p := ⟨d, 1, none⟩) hn _).setCell (p := ⟨d, 2, none⟩) hn _)
theorem ofS3 {w0 W : World} {n b c d : Nat} {v0 v1 v2 x0 x1 x2 : Value} {y0 y1 y2 : Value} (hS : W.cell? ⟨b, 0, none⟩ = some v0 ∧ W.cell? ⟨b, 1, none⟩ = some v1 ∧ W.cell? ⟨b, 2, none⟩ = some v2 ∧ W.frozen? ⟨b, 0, none⟩ = false ∧ W.frozen? ⟨b, 1, none⟩ = false ∧ W.frozen? ⟨b, 2, none⟩ = false ∧ b < W.heap.size ∧ W.cell? ⟨c, 0, none⟩ = some x0 ∧ W.cell? ⟨c, 1, none⟩ = some x1 ∧ W.cell? ⟨c, 2, none⟩ = some x2 ∧ W.frozen? ⟨c, 0, none⟩ = false ∧ W.frozen? ⟨c, 1, none⟩ = false ∧ W.frozen? ⟨c, 2, none⟩ = false ∧ c < W.heap.size ∧ W.cell? ⟨d, 0, none⟩ = some y0 ∧ W.cell? ⟨d, 1, none⟩ = some y1 ∧ W.cell? ⟨d, 2, none⟩ = some y2 ∧ W.frozen? ⟨d, 0, none⟩ = false ∧ W.frozen? ⟨d, 1, none⟩ = false ∧ W.frozen? ⟨d, 2, none⟩ = false ∧ d < W.heap.size ∧ Below n w0 W) :
    W.cell? ⟨b, 0, none⟩ = some v0 ∧ W.cell? ⟨b, 1, none⟩ = some v1 ∧ W.cell? ⟨b, 2, none⟩ = some v2 ∧ W.frozen? ⟨b, 0, none⟩ = false ∧ W.frozen? ⟨b, 1, none⟩ = false ∧ W.frozen? ⟨b, 2, none⟩ = false ∧ b < W.heap.size ∧ W.cell? ⟨c, 0, none⟩ = some x0 ∧ W.cell? ⟨c, 1, none⟩ = some x1 ∧ W.cell? ⟨c, 2, none⟩ = some x2 ∧ W.frozen? ⟨c, 0, none⟩ = false ∧ W.frozen? ⟨c, 1, none⟩ = false ∧ W.frozen? ⟨c, 2, none⟩ = false ∧ c < W.heap.size ∧ W.cell? ⟨d, 0, none⟩ = some (cellv W (d) 0) ∧ W.cell? ⟨d, 1, none⟩ = some (cellv W (d) 1) ∧ W.cell? ⟨d, 2, none⟩ = some (cellv W (d) 2) ∧ W.frozen? ⟨d, 0, none⟩ = false ∧ W.frozen? ⟨d, 1, none⟩ = false ∧ W.frozen? ⟨d, 2, none⟩ = false ∧ d < W.heap.size ∧ Below n w0 W := by
  obtain ⟨a00, a01, a02, a03, a04, a05, a06, a10, a11, a12, a13, a14, a15, a16, a20, a21, a22, a23, a24, a25, a26, hg⟩ := hS
  exact mkR ⟨a00, a01, a02, a03, a04, a05, a06⟩ ⟨a10, a11, a12, a13, a14, a15, a16⟩ ⟨a20, a21, a22, a23, a24, a25, a26⟩ hg
set_option maxHeartbeats 2000000 in
theorem join_none1 (s l h t m k : Nat) (uh : U h) (uk : U k) (ha : Rt ⟨s, l, h⟩) (hb : Rt ⟨t, m, k⟩) (hn : (⟨s, l, h⟩ : St) = noneS) (w : World) :
    Calls Tryd.prog 10 #[sv s l h, sv t m k] w fun e w' => e = .returned (sv t m k) ∧ Below w.heap.size w w' := by
  have q := eq3_none s l h hn
  clear hn
  have k1 := ((Slot3.new w (.int .u64 (s : Int)) (.int .u64 (l : Int)) (.int .u64 (h : Int)) 24).alloc (sb t m k)).alloc (z3)
  have k2 := (Slot3.new (w.alloc (sb s l h)) (.int .u64 (t : Int)) (.int .u64 (m : Int)) (.int .u64 (k : Int)) 24).alloc (z3)
  have k3 := Slot3.new ((w.alloc (sb s l h)).alloc (sb t m k)) (.int .u64 0) (.int .u64 0) (.int .u64 0) 24
  have hb0 : Below w.heap.size w (((w.alloc (sb s l h)).alloc (sb t m k)).alloc (z3)) := (((Below.refl _ _).alloc (Nat.le_refl _) _).alloc (by simp) _).alloc (by simp; omega) _
  have HS := Lib.hid (mk3 k1.drew k2.drew k3.drew hb0.drew)
  simp only [World.size_alloc] at HS
  clear k1 k2 k3 hb0
  go_enter Tryd.func10, Tryd.ntmps10
  go_wp2
  go_region_held3 (fun W => W.cell? ⟨w.heap.size, 0, none⟩ = some (.int .u64 (s : Int)) ∧ W.cell? ⟨w.heap.size, 1, none⟩ = some (.int .u64 (l : Int)) ∧ W.cell? ⟨w.heap.size, 2, none⟩ = some (.int .u64 (h : Int)) ∧ W.frozen? ⟨w.heap.size, 0, none⟩ = false ∧ W.frozen? ⟨w.heap.size, 1, none⟩ = false ∧ W.frozen? ⟨w.heap.size, 2, none⟩ = false ∧ w.heap.size < W.heap.size ∧ W.cell? ⟨w.heap.size + 1, 0, none⟩ = some (.int .u64 (t : Int)) ∧ W.cell? ⟨w.heap.size + 1, 1, none⟩ = some (.int .u64 (m : Int)) ∧ W.cell? ⟨w.heap.size + 1, 2, none⟩ = some (.int .u64 (k : Int)) ∧ W.frozen? ⟨w.heap.size + 1, 0, none⟩ = false ∧ W.frozen? ⟨w.heap.size + 1, 1, none⟩ = false ∧ W.frozen? ⟨w.heap.size + 1, 2, none⟩ = false ∧ w.heap.size + 1 < W.heap.size ∧ W.cell? ⟨w.heap.size + 1 + 1, 0, none⟩ = some (.int .u64 0) ∧ W.cell? ⟨w.heap.size + 1 + 1, 1, none⟩ = some (.int .u64 0) ∧ W.cell? ⟨w.heap.size + 1 + 1, 2, none⟩ = some (.int .u64 0) ∧ W.frozen? ⟨w.heap.size + 1 + 1, 0, none⟩ = false ∧ W.frozen? ⟨w.heap.size + 1 + 1, 1, none⟩ = false ∧ W.frozen? ⟨w.heap.size + 1 + 1, 2, none⟩ = false ∧ w.heap.size + 1 + 1 < W.heap.size ∧ Below w.heap.size w W)
    (first | (with_reducible assumption) | (with_reducible exact HS.out) | (with_reducible exact drew3 HS.out) | (with_reducible exact st3b (by assumption)) | (with_reducible exact st3c (by assumption)) | (with_reducible exact keep3 (by assumption) (by assumption) (Nat.le_refl _)) | fail)
    (first | (go_at_call 27; ((with_reducible refine (held_rt _ _ _ uh ha _).mono ?_); rintro e w1 ⟨rfl, hb1⟩)) | (go_at_call 27; ((with_reducible refine (held_rt _ _ _ uk hb _).mono ?_); rintro e w1 ⟨rfl, hb1⟩)))
  rename_i hS
  refine anyW (P := fun W => W.cell? ⟨w.heap.size, 0, none⟩ = some (.int .u64 (s : Int)) ∧ W.cell? ⟨w.heap.size, 1, none⟩ = some (.int .u64 (l : Int)) ∧ W.cell? ⟨w.heap.size, 2, none⟩ = some (.int .u64 (h : Int)) ∧ W.frozen? ⟨w.heap.size, 0, none⟩ = false ∧ W.frozen? ⟨w.heap.size, 1, none⟩ = false ∧ W.frozen? ⟨w.heap.size, 2, none⟩ = false ∧ w.heap.size < W.heap.size ∧ W.cell? ⟨w.heap.size + 1, 0, none⟩ = some (.int .u64 (t : Int)) ∧ W.cell? ⟨w.heap.size + 1, 1, none⟩ = some (.int .u64 (m : Int)) ∧ W.cell? ⟨w.heap.size + 1, 2, none⟩ = some (.int .u64 (k : Int)) ∧ W.frozen? ⟨w.heap.size + 1, 0, none⟩ = false ∧ W.frozen? ⟨w.heap.size + 1, 1, none⟩ = false ∧ W.frozen? ⟨w.heap.size + 1, 2, none⟩ = false ∧ w.heap.size + 1 < W.heap.size ∧ W.cell? ⟨w.heap.size + 1 + 1, 0, none⟩ = some (.int .u64 0) ∧ W.cell? ⟨w.heap.size + 1 + 1, 1, none⟩ = some (.int .u64 0) ∧ W.cell? ⟨w.heap.size + 1 + 1, 2, none⟩ = some (.int .u64 0) ∧ W.frozen? ⟨w.heap.size + 1 + 1, 0, none⟩ = false ∧ W.frozen? ⟨w.heap.size + 1 + 1, 1, none⟩ = false ∧ W.frozen? ⟨w.heap.size + 1 + 1, 2, none⟩ = false ∧ w.heap.size + 1 + 1 < W.heap.size ∧ Below w.heap.size w W) (Q := fun W => Exit.then _ _ _ _ W) hS ?_
  clear hS HS
  intro W hS
  have HS := Lib.hid hS
  obtain ⟨a0, a1, a2, a3, a4, a5, a6, b0, b1, b2, b3, b4, b5, b6, c0, c1, c2, c3, c4, c5, c6, hg⟩ := hS
  go_wp2
  go_region_held3 (fun W => W.cell? ⟨w.heap.size, 0, none⟩ = some (.int .u64 (s : Int)) ∧ W.cell? ⟨w.heap.size, 1, none⟩ = some (.int .u64 (l : Int)) ∧ W.cell? ⟨w.heap.size, 2, none⟩ = some (.int .u64 (h : Int)) ∧ W.frozen? ⟨w.heap.size, 0, none⟩ = false ∧ W.frozen? ⟨w.heap.size, 1, none⟩ = false ∧ W.frozen? ⟨w.heap.size, 2, none⟩ = false ∧ w.heap.size < W.heap.size ∧ W.cell? ⟨w.heap.size + 1, 0, none⟩ = some (.int .u64 (t : Int)) ∧ W.cell? ⟨w.heap.size + 1, 1, none⟩ = some (.int .u64 (m : Int)) ∧ W.cell? ⟨w.heap.size + 1, 2, none⟩ = some (.int .u64 (k : Int)) ∧ W.frozen? ⟨w.heap.size + 1, 0, none⟩ = false ∧ W.frozen? ⟨w.heap.size + 1, 1, none⟩ = false ∧ W.frozen? ⟨w.heap.size + 1, 2, none⟩ = false ∧ w.heap.size + 1 < W.heap.size ∧ W.cell? ⟨w.heap.size + 1 + 1, 0, none⟩ = some (.int .u64 0) ∧ W.cell? ⟨w.heap.size + 1 + 1, 1, none⟩ = some (.int .u64 0) ∧ W.cell? ⟨w.heap.size + 1 + 1, 2, none⟩ = some (.int .u64 0) ∧ W.frozen? ⟨w.heap.size + 1 + 1, 0, none⟩ = false ∧ W.frozen? ⟨w.heap.size + 1 + 1, 1, none⟩ = false ∧ W.frozen? ⟨w.heap.size + 1 + 1, 2, none⟩ = false ∧ w.heap.size + 1 + 1 < W.heap.size ∧ Below w.heap.size w W)
    (first | (with_reducible assumption) | (with_reducible exact HS.out) | (with_reducible exact drew3 HS.out) | (with_reducible exact st3b (by assumption)) | (with_reducible exact st3c (by assumption)) | (with_reducible exact keep3 (by assumption) (by assumption) (Nat.le_refl _)) | fail)
    (first | (go_at_call 26; ((with_reducible refine (none_any _).mono ?_); rintro e w1 ⟨rfl, hb1⟩)))
  clear a0 a1 a2 a3 a4 a5 a6 b0 b1 b2 b3 b4 b5 b6 c0 c1 c2 c3 c4 c5 c6 hg
  rename_i hS
  refine anyW (P := fun W => W.cell? ⟨w.heap.size, 0, none⟩ = some (.int .u64 (s : Int)) ∧ W.cell? ⟨w.heap.size, 1, none⟩ = some (.int .u64 (l : Int)) ∧ W.cell? ⟨w.heap.size, 2, none⟩ = some (.int .u64 (h : Int)) ∧ W.frozen? ⟨w.heap.size, 0, none⟩ = false ∧ W.frozen? ⟨w.heap.size, 1, none⟩ = false ∧ W.frozen? ⟨w.heap.size, 2, none⟩ = false ∧ w.heap.size < W.heap.size ∧ W.cell? ⟨w.heap.size + 1, 0, none⟩ = some (.int .u64 (t : Int)) ∧ W.cell? ⟨w.heap.size + 1, 1, none⟩ = some (.int .u64 (m : Int)) ∧ W.cell? ⟨w.heap.size + 1, 2, none⟩ = some (.int .u64 (k : Int)) ∧ W.frozen? ⟨w.heap.size + 1, 0, none⟩ = false ∧ W.frozen? ⟨w.heap.size + 1, 1, none⟩ = false ∧ W.frozen? ⟨w.heap.size + 1, 2, none⟩ = false ∧ w.heap.size + 1 < W.heap.size ∧ W.cell? ⟨w.heap.size + 1 + 1, 0, none⟩ = some (.int .u64 0) ∧ W.cell? ⟨w.heap.size + 1 + 1, 1, none⟩ = some (.int .u64 0) ∧ W.cell? ⟨w.heap.size + 1 + 1, 2, none⟩ = some (.int .u64 0) ∧ W.frozen? ⟨w.heap.size + 1 + 1, 0, none⟩ = false ∧ W.frozen? ⟨w.heap.size + 1 + 1, 1, none⟩ = false ∧ W.frozen? ⟨w.heap.size + 1 + 1, 2, none⟩ = false ∧ w.heap.size + 1 + 1 < W.heap.size ∧ Below w.heap.size w W) (Q := fun W => Exit.then _ _ _ _ W) hS ?_
  clear hS HS
  intro W hS
  have HS := Lib.hid hS
  obtain ⟨a0, a1, a2, a3, a4, a5, a6, b0, b1, b2, b3, b4, b5, b6, c0, c1, c2, c3, c4, c5, c6, hg⟩ := hS
  go_wp2_with fail
  refine bodyPost_ret (v := sv t m k) (by simp [results, Tryd.results10, go_sem, *]) rfl ⟨rfl, hg.trans ?_⟩
  go_grown
set_option maxHeartbeats 2000000 in
theorem join_none2 (s l h t m k : Nat) (uh : U h) (uk : U k) (ha : Rt ⟨s, l, h⟩) (hb : Rt ⟨t, m, k⟩) (hn : (⟨s, l, h⟩ : St) ≠ noneS) (hm : (⟨t, m, k⟩ : St) = noneS) (w : World) :
    Calls Tryd.prog 10 #[sv s l h, sv t m k] w fun e w' => e = .returned (sv s l h) ∧ Below w.heap.size w w' := by
  have q := eq3_some s l h hn
  have r := eq3_none t m k hm
  clear hm hn
  have k1 := ((Slot3.new w (.int .u64 (s : Int)) (.int .u64 (l : Int)) (.int .u64 (h : Int)) 24).alloc (sb t m k)).alloc (z3)
  have k2 := (Slot3.new (w.alloc (sb s l h)) (.int .u64 (t : Int)) (.int .u64 (m : Int)) (.int .u64 (k : Int)) 24).alloc (z3)
  have k3 := Slot3.new ((w.alloc (sb s l h)).alloc (sb t m k)) (.int .u64 0) (.int .u64 0) (.int .u64 0) 24
  have hb0 : Below w.heap.size w (((w.alloc (sb s l h)).alloc (sb t m k)).alloc (z3)) := (((Below.refl _ _).alloc (Nat.le_refl _) _).alloc (by simp) _).alloc (by simp; omega) _
  have HS := Lib.hid (mk3 k1.drew k2.drew k3.drew hb0.drew)
  simp only [World.size_alloc] at HS
  clear k1 k2 k3 hb0
  go_enter Tryd.func10, Tryd.ntmps10
  go_wp2
  go_region_held3 (fun W => W.cell? ⟨w.heap.size, 0, none⟩ = some (.int .u64 (s : Int)) ∧ W.cell? ⟨w.heap.size, 1, none⟩ = some (.int .u64 (l : Int)) ∧ W.cell? ⟨w.heap.size, 2, none⟩ = some (.int .u64 (h : Int)) ∧ W.frozen? ⟨w.heap.size, 0, none⟩ = false ∧ W.frozen? ⟨w.heap.size, 1, none⟩ = false ∧ W.frozen? ⟨w.heap.size, 2, none⟩ = false ∧ w.heap.size < W.heap.size ∧ W.cell? ⟨w.heap.size + 1, 0, none⟩ = some (.int .u64 (t : Int)) ∧ W.cell? ⟨w.heap.size + 1, 1, none⟩ = some (.int .u64 (m : Int)) ∧ W.cell? ⟨w.heap.size + 1, 2, none⟩ = some (.int .u64 (k : Int)) ∧ W.frozen? ⟨w.heap.size + 1, 0, none⟩ = false ∧ W.frozen? ⟨w.heap.size + 1, 1, none⟩ = false ∧ W.frozen? ⟨w.heap.size + 1, 2, none⟩ = false ∧ w.heap.size + 1 < W.heap.size ∧ W.cell? ⟨w.heap.size + 1 + 1, 0, none⟩ = some (.int .u64 0) ∧ W.cell? ⟨w.heap.size + 1 + 1, 1, none⟩ = some (.int .u64 0) ∧ W.cell? ⟨w.heap.size + 1 + 1, 2, none⟩ = some (.int .u64 0) ∧ W.frozen? ⟨w.heap.size + 1 + 1, 0, none⟩ = false ∧ W.frozen? ⟨w.heap.size + 1 + 1, 1, none⟩ = false ∧ W.frozen? ⟨w.heap.size + 1 + 1, 2, none⟩ = false ∧ w.heap.size + 1 + 1 < W.heap.size ∧ Below w.heap.size w W)
    (first | (with_reducible assumption) | (with_reducible exact HS.out) | (with_reducible exact drew3 HS.out) | (with_reducible exact st3b (by assumption)) | (with_reducible exact st3c (by assumption)) | (with_reducible exact keep3 (by assumption) (by assumption) (Nat.le_refl _)) | fail)
    (first | (go_at_call 27; ((with_reducible refine (held_rt _ _ _ uh ha _).mono ?_); rintro e w1 ⟨rfl, hb1⟩)) | (go_at_call 27; ((with_reducible refine (held_rt _ _ _ uk hb _).mono ?_); rintro e w1 ⟨rfl, hb1⟩)))
  rename_i hS
  refine anyW (P := fun W => W.cell? ⟨w.heap.size, 0, none⟩ = some (.int .u64 (s : Int)) ∧ W.cell? ⟨w.heap.size, 1, none⟩ = some (.int .u64 (l : Int)) ∧ W.cell? ⟨w.heap.size, 2, none⟩ = some (.int .u64 (h : Int)) ∧ W.frozen? ⟨w.heap.size, 0, none⟩ = false ∧ W.frozen? ⟨w.heap.size, 1, none⟩ = false ∧ W.frozen? ⟨w.heap.size, 2, none⟩ = false ∧ w.heap.size < W.heap.size ∧ W.cell? ⟨w.heap.size + 1, 0, none⟩ = some (.int .u64 (t : Int)) ∧ W.cell? ⟨w.heap.size + 1, 1, none⟩ = some (.int .u64 (m : Int)) ∧ W.cell? ⟨w.heap.size + 1, 2, none⟩ = some (.int .u64 (k : Int)) ∧ W.frozen? ⟨w.heap.size + 1, 0, none⟩ = false ∧ W.frozen? ⟨w.heap.size + 1, 1, none⟩ = false ∧ W.frozen? ⟨w.heap.size + 1, 2, none⟩ = false ∧ w.heap.size + 1 < W.heap.size ∧ W.cell? ⟨w.heap.size + 1 + 1, 0, none⟩ = some (.int .u64 0) ∧ W.cell? ⟨w.heap.size + 1 + 1, 1, none⟩ = some (.int .u64 0) ∧ W.cell? ⟨w.heap.size + 1 + 1, 2, none⟩ = some (.int .u64 0) ∧ W.frozen? ⟨w.heap.size + 1 + 1, 0, none⟩ = false ∧ W.frozen? ⟨w.heap.size + 1 + 1, 1, none⟩ = false ∧ W.frozen? ⟨w.heap.size + 1 + 1, 2, none⟩ = false ∧ w.heap.size + 1 + 1 < W.heap.size ∧ Below w.heap.size w W) (Q := fun W => Exit.then _ _ _ _ W) hS ?_
  clear hS HS
  intro W hS
  have HS := Lib.hid hS
  obtain ⟨a0, a1, a2, a3, a4, a5, a6, b0, b1, b2, b3, b4, b5, b6, c0, c1, c2, c3, c4, c5, c6, hg⟩ := hS
  go_wp2
  go_region_held3 (fun W => W.cell? ⟨w.heap.size, 0, none⟩ = some (.int .u64 (s : Int)) ∧ W.cell? ⟨w.heap.size, 1, none⟩ = some (.int .u64 (l : Int)) ∧ W.cell? ⟨w.heap.size, 2, none⟩ = some (.int .u64 (h : Int)) ∧ W.frozen? ⟨w.heap.size, 0, none⟩ = false ∧ W.frozen? ⟨w.heap.size, 1, none⟩ = false ∧ W.frozen? ⟨w.heap.size, 2, none⟩ = false ∧ w.heap.size < W.heap.size ∧ W.cell? ⟨w.heap.size + 1, 0, none⟩ = some (.int .u64 (t : Int)) ∧ W.cell? ⟨w.heap.size + 1, 1, none⟩ = some (.int .u64 (m : Int)) ∧ W.cell? ⟨w.heap.size + 1, 2, none⟩ = some (.int .u64 (k : Int)) ∧ W.frozen? ⟨w.heap.size + 1, 0, none⟩ = false ∧ W.frozen? ⟨w.heap.size + 1, 1, none⟩ = false ∧ W.frozen? ⟨w.heap.size + 1, 2, none⟩ = false ∧ w.heap.size + 1 < W.heap.size ∧ W.cell? ⟨w.heap.size + 1 + 1, 0, none⟩ = some (.int .u64 0) ∧ W.cell? ⟨w.heap.size + 1 + 1, 1, none⟩ = some (.int .u64 0) ∧ W.cell? ⟨w.heap.size + 1 + 1, 2, none⟩ = some (.int .u64 0) ∧ W.frozen? ⟨w.heap.size + 1 + 1, 0, none⟩ = false ∧ W.frozen? ⟨w.heap.size + 1 + 1, 1, none⟩ = false ∧ W.frozen? ⟨w.heap.size + 1 + 1, 2, none⟩ = false ∧ w.heap.size + 1 + 1 < W.heap.size ∧ Below w.heap.size w W)
    (first | (with_reducible assumption) | (with_reducible exact HS.out) | (with_reducible exact drew3 HS.out) | (with_reducible exact st3b (by assumption)) | (with_reducible exact st3c (by assumption)) | (with_reducible exact keep3 (by assumption) (by assumption) (Nat.le_refl _)) | fail)
    (first | (go_at_call 26; ((with_reducible refine (none_any _).mono ?_); rintro e w1 ⟨rfl, hb1⟩)))
  clear a0 a1 a2 a3 a4 a5 a6 b0 b1 b2 b3 b4 b5 b6 c0 c1 c2 c3 c4 c5 c6 hg
  rename_i hS
  refine anyW (P := fun W => W.cell? ⟨w.heap.size, 0, none⟩ = some (.int .u64 (s : Int)) ∧ W.cell? ⟨w.heap.size, 1, none⟩ = some (.int .u64 (l : Int)) ∧ W.cell? ⟨w.heap.size, 2, none⟩ = some (.int .u64 (h : Int)) ∧ W.frozen? ⟨w.heap.size, 0, none⟩ = false ∧ W.frozen? ⟨w.heap.size, 1, none⟩ = false ∧ W.frozen? ⟨w.heap.size, 2, none⟩ = false ∧ w.heap.size < W.heap.size ∧ W.cell? ⟨w.heap.size + 1, 0, none⟩ = some (.int .u64 (t : Int)) ∧ W.cell? ⟨w.heap.size + 1, 1, none⟩ = some (.int .u64 (m : Int)) ∧ W.cell? ⟨w.heap.size + 1, 2, none⟩ = some (.int .u64 (k : Int)) ∧ W.frozen? ⟨w.heap.size + 1, 0, none⟩ = false ∧ W.frozen? ⟨w.heap.size + 1, 1, none⟩ = false ∧ W.frozen? ⟨w.heap.size + 1, 2, none⟩ = false ∧ w.heap.size + 1 < W.heap.size ∧ W.cell? ⟨w.heap.size + 1 + 1, 0, none⟩ = some (.int .u64 0) ∧ W.cell? ⟨w.heap.size + 1 + 1, 1, none⟩ = some (.int .u64 0) ∧ W.cell? ⟨w.heap.size + 1 + 1, 2, none⟩ = some (.int .u64 0) ∧ W.frozen? ⟨w.heap.size + 1 + 1, 0, none⟩ = false ∧ W.frozen? ⟨w.heap.size + 1 + 1, 1, none⟩ = false ∧ W.frozen? ⟨w.heap.size + 1 + 1, 2, none⟩ = false ∧ w.heap.size + 1 + 1 < W.heap.size ∧ Below w.heap.size w W) (Q := fun W => Exit.then _ _ _ _ W) hS ?_
  clear hS HS
  intro W hS
  have HS := Lib.hid hS
  obtain ⟨a0, a1, a2, a3, a4, a5, a6, b0, b1, b2, b3, b4, b5, b6, c0, c1, c2, c3, c4, c5, c6, hg⟩ := hS
  go_wp2
  go_region_held3 (fun W => W.cell? ⟨w.heap.size, 0, none⟩ = some (.int .u64 (s : Int)) ∧ W.cell? ⟨w.heap.size, 1, none⟩ = some (.int .u64 (l : Int)) ∧ W.cell? ⟨w.heap.size, 2, none⟩ = some (.int .u64 (h : Int)) ∧ W.frozen? ⟨w.heap.size, 0, none⟩ = false ∧ W.frozen? ⟨w.heap.size, 1, none⟩ = false ∧ W.frozen? ⟨w.heap.size, 2, none⟩ = false ∧ w.heap.size < W.heap.size ∧ W.cell? ⟨w.heap.size + 1, 0, none⟩ = some (.int .u64 (t : Int)) ∧ W.cell? ⟨w.heap.size + 1, 1, none⟩ = some (.int .u64 (m : Int)) ∧ W.cell? ⟨w.heap.size + 1, 2, none⟩ = some (.int .u64 (k : Int)) ∧ W.frozen? ⟨w.heap.size + 1, 0, none⟩ = false ∧ W.frozen? ⟨w.heap.size + 1, 1, none⟩ = false ∧ W.frozen? ⟨w.heap.size + 1, 2, none⟩ = false ∧ w.heap.size + 1 < W.heap.size ∧ W.cell? ⟨w.heap.size + 1 + 1, 0, none⟩ = some (.int .u64 0) ∧ W.cell? ⟨w.heap.size + 1 + 1, 1, none⟩ = some (.int .u64 0) ∧ W.cell? ⟨w.heap.size + 1 + 1, 2, none⟩ = some (.int .u64 0) ∧ W.frozen? ⟨w.heap.size + 1 + 1, 0, none⟩ = false ∧ W.frozen? ⟨w.heap.size + 1 + 1, 1, none⟩ = false ∧ W.frozen? ⟨w.heap.size + 1 + 1, 2, none⟩ = false ∧ w.heap.size + 1 + 1 < W.heap.size ∧ Below w.heap.size w W)
    (first | (with_reducible assumption) | (with_reducible exact HS.out) | (with_reducible exact drew3 HS.out) | (with_reducible exact st3b (by assumption)) | (with_reducible exact st3c (by assumption)) | (with_reducible exact keep3 (by assumption) (by assumption) (Nat.le_refl _)) | fail)
    (first | (go_at_call 26; ((with_reducible refine (none_any _).mono ?_); rintro e w1 ⟨rfl, hb1⟩)))
  clear a0 a1 a2 a3 a4 a5 a6 b0 b1 b2 b3 b4 b5 b6 c0 c1 c2 c3 c4 c5 c6 hg
  rename_i hS
  refine anyW (P := fun W => W.cell? ⟨w.heap.size, 0, none⟩ = some (.int .u64 (s : Int)) ∧ W.cell? ⟨w.heap.size, 1, none⟩ = some (.int .u64 (l : Int)) ∧ W.cell? ⟨w.heap.size, 2, none⟩ = some (.int .u64 (h : Int)) ∧ W.frozen? ⟨w.heap.size, 0, none⟩ = false ∧ W.frozen? ⟨w.heap.size, 1, none⟩ = false ∧ W.frozen? ⟨w.heap.size, 2, none⟩ = false ∧ w.heap.size < W.heap.size ∧ W.cell? ⟨w.heap.size + 1, 0, none⟩ = some (.int .u64 (t : Int)) ∧ W.cell? ⟨w.heap.size + 1, 1, none⟩ = some (.int .u64 (m : Int)) ∧ W.cell? ⟨w.heap.size + 1, 2, none⟩ = some (.int .u64 (k : Int)) ∧ W.frozen? ⟨w.heap.size + 1, 0, none⟩ = false ∧ W.frozen? ⟨w.heap.size + 1, 1, none⟩ = false ∧ W.frozen? ⟨w.heap.size + 1, 2, none⟩ = false ∧ w.heap.size + 1 < W.heap.size ∧ W.cell? ⟨w.heap.size + 1 + 1, 0, none⟩ = some (.int .u64 0) ∧ W.cell? ⟨w.heap.size + 1 + 1, 1, none⟩ = some (.int .u64 0) ∧ W.cell? ⟨w.heap.size + 1 + 1, 2, none⟩ = some (.int .u64 0) ∧ W.frozen? ⟨w.heap.size + 1 + 1, 0, none⟩ = false ∧ W.frozen? ⟨w.heap.size + 1 + 1, 1, none⟩ = false ∧ W.frozen? ⟨w.heap.size + 1 + 1, 2, none⟩ = false ∧ w.heap.size + 1 + 1 < W.heap.size ∧ Below w.heap.size w W) (Q := fun W => Exit.then _ _ _ _ W) hS ?_
  clear hS HS
  intro W hS
  have HS := Lib.hid hS
  obtain ⟨a0, a1, a2, a3, a4, a5, a6, b0, b1, b2, b3, b4, b5, b6, c0, c1, c2, c3, c4, c5, c6, hg⟩ := hS
  go_wp2_with fail
  refine bodyPost_ret (v := sv s l h) (by simp [results, Tryd.results10, go_sem, *]) rfl ⟨rfl, hg.trans ?_⟩
  go_grown
theorem U_sub {a b : Nat} (h : U a) : U (a - b) := Nat.lt_of_le_of_lt (Nat.sub_le _ _) h
theorem U_gcd {a b : Nat} (h : U a) (k : U b) : U (Nat.gcd a b) := by
  rcases Nat.eq_zero_or_pos a with e | e
  · rw [e, Nat.gcd_zero_left]; exact k
  · exact Nat.lt_of_le_of_lt (Nat.gcd_le_left _ e) h
set_option maxHeartbeats 2000000 in
theorem join_many (s l h t m k : Nat) (us : U s) (ul : U l) (uh : U h) (ut : U t) (um : U m) (uk : U k) (ha : Rt ⟨s, l, h⟩) (hb : Rt ⟨t, m, k⟩) (hn : (⟨s, l, h⟩ : St) ≠ noneS) (hm : (⟨t, m, k⟩ : St) ≠ noneS) (w : World) :
    Calls Tryd.prog 10 #[sv s l h, sv t m k] w fun e w' => e = .returned (sv (Nat.gcd (Nat.gcd s t) (mx l m - mn l m)) (mn l m) (mx h k)) ∧ Below w.heap.size w w' := by
  have q := eq3_some s l h hn
  have r := eq3_some t m k hm
  have e7 := mn_le l m
  have e8 : U (mx l m) := by unfold U mx at *; omega
  have u1 : (mx l m : Int) ≤ 18446744073709551615 := by unfold U at e8; omega
  have e6 : (mx l m : Int) - mn l m = ((mx l m - mn l m : Nat) : Int) := by omega
  clear hm hn
  have k1 := ((Slot3.new w (.int .u64 (s : Int)) (.int .u64 (l : Int)) (.int .u64 (h : Int)) 24).alloc (sb t m k)).alloc (z3)
  have k2 := (Slot3.new (w.alloc (sb s l h)) (.int .u64 (t : Int)) (.int .u64 (m : Int)) (.int .u64 (k : Int)) 24).alloc (z3)
  have k3 := Slot3.new ((w.alloc (sb s l h)).alloc (sb t m k)) (.int .u64 0) (.int .u64 0) (.int .u64 0) 24
  have hb0 : Below w.heap.size w (((w.alloc (sb s l h)).alloc (sb t m k)).alloc (z3)) := (((Below.refl _ _).alloc (Nat.le_refl _) _).alloc (by simp) _).alloc (by simp; omega) _
  have HS := Lib.hid (mk3 k1.drew k2.drew k3.drew hb0.drew)
  simp only [World.size_alloc] at HS
  clear k1 k2 k3 hb0
  go_enter Tryd.func10, Tryd.ntmps10
  go_wp2
  go_region_held3 (fun W => W.cell? ⟨w.heap.size, 0, none⟩ = some (.int .u64 (s : Int)) ∧ W.cell? ⟨w.heap.size, 1, none⟩ = some (.int .u64 (l : Int)) ∧ W.cell? ⟨w.heap.size, 2, none⟩ = some (.int .u64 (h : Int)) ∧ W.frozen? ⟨w.heap.size, 0, none⟩ = false ∧ W.frozen? ⟨w.heap.size, 1, none⟩ = false ∧ W.frozen? ⟨w.heap.size, 2, none⟩ = false ∧ w.heap.size < W.heap.size ∧ W.cell? ⟨w.heap.size + 1, 0, none⟩ = some (.int .u64 (t : Int)) ∧ W.cell? ⟨w.heap.size + 1, 1, none⟩ = some (.int .u64 (m : Int)) ∧ W.cell? ⟨w.heap.size + 1, 2, none⟩ = some (.int .u64 (k : Int)) ∧ W.frozen? ⟨w.heap.size + 1, 0, none⟩ = false ∧ W.frozen? ⟨w.heap.size + 1, 1, none⟩ = false ∧ W.frozen? ⟨w.heap.size + 1, 2, none⟩ = false ∧ w.heap.size + 1 < W.heap.size ∧ W.cell? ⟨w.heap.size + 1 + 1, 0, none⟩ = some (.int .u64 0) ∧ W.cell? ⟨w.heap.size + 1 + 1, 1, none⟩ = some (.int .u64 0) ∧ W.cell? ⟨w.heap.size + 1 + 1, 2, none⟩ = some (.int .u64 0) ∧ W.frozen? ⟨w.heap.size + 1 + 1, 0, none⟩ = false ∧ W.frozen? ⟨w.heap.size + 1 + 1, 1, none⟩ = false ∧ W.frozen? ⟨w.heap.size + 1 + 1, 2, none⟩ = false ∧ w.heap.size + 1 + 1 < W.heap.size ∧ Below w.heap.size w W)
    (first | (with_reducible assumption) | (with_reducible exact HS.out) | (with_reducible exact drew3 HS.out) | (with_reducible exact st3b (by assumption)) | (with_reducible exact st3c (by assumption)) | (with_reducible exact keep3 (by assumption) (by assumption) (Nat.le_refl _)) | fail)
    (first | (go_at_call 27; ((with_reducible refine (held_rt _ _ _ uh ha _).mono ?_); rintro e w1 ⟨rfl, hb1⟩)) | (go_at_call 27; ((with_reducible refine (held_rt _ _ _ uk hb _).mono ?_); rintro e w1 ⟨rfl, hb1⟩)))
  rename_i hS
  refine anyW (P := fun W => W.cell? ⟨w.heap.size, 0, none⟩ = some (.int .u64 (s : Int)) ∧ W.cell? ⟨w.heap.size, 1, none⟩ = some (.int .u64 (l : Int)) ∧ W.cell? ⟨w.heap.size, 2, none⟩ = some (.int .u64 (h : Int)) ∧ W.frozen? ⟨w.heap.size, 0, none⟩ = false ∧ W.frozen? ⟨w.heap.size, 1, none⟩ = false ∧ W.frozen? ⟨w.heap.size, 2, none⟩ = false ∧ w.heap.size < W.heap.size ∧ W.cell? ⟨w.heap.size + 1, 0, none⟩ = some (.int .u64 (t : Int)) ∧ W.cell? ⟨w.heap.size + 1, 1, none⟩ = some (.int .u64 (m : Int)) ∧ W.cell? ⟨w.heap.size + 1, 2, none⟩ = some (.int .u64 (k : Int)) ∧ W.frozen? ⟨w.heap.size + 1, 0, none⟩ = false ∧ W.frozen? ⟨w.heap.size + 1, 1, none⟩ = false ∧ W.frozen? ⟨w.heap.size + 1, 2, none⟩ = false ∧ w.heap.size + 1 < W.heap.size ∧ W.cell? ⟨w.heap.size + 1 + 1, 0, none⟩ = some (.int .u64 0) ∧ W.cell? ⟨w.heap.size + 1 + 1, 1, none⟩ = some (.int .u64 0) ∧ W.cell? ⟨w.heap.size + 1 + 1, 2, none⟩ = some (.int .u64 0) ∧ W.frozen? ⟨w.heap.size + 1 + 1, 0, none⟩ = false ∧ W.frozen? ⟨w.heap.size + 1 + 1, 1, none⟩ = false ∧ W.frozen? ⟨w.heap.size + 1 + 1, 2, none⟩ = false ∧ w.heap.size + 1 + 1 < W.heap.size ∧ Below w.heap.size w W) (Q := fun W => Exit.then _ _ _ _ W) hS ?_
  clear hS HS
  intro W hS
  have HS := Lib.hid hS
  obtain ⟨a0, a1, a2, a3, a4, a5, a6, b0, b1, b2, b3, b4, b5, b6, c0, c1, c2, c3, c4, c5, c6, hg⟩ := hS
  go_wp2
  go_region_held3 (fun W => W.cell? ⟨w.heap.size, 0, none⟩ = some (.int .u64 (s : Int)) ∧ W.cell? ⟨w.heap.size, 1, none⟩ = some (.int .u64 (l : Int)) ∧ W.cell? ⟨w.heap.size, 2, none⟩ = some (.int .u64 (h : Int)) ∧ W.frozen? ⟨w.heap.size, 0, none⟩ = false ∧ W.frozen? ⟨w.heap.size, 1, none⟩ = false ∧ W.frozen? ⟨w.heap.size, 2, none⟩ = false ∧ w.heap.size < W.heap.size ∧ W.cell? ⟨w.heap.size + 1, 0, none⟩ = some (.int .u64 (t : Int)) ∧ W.cell? ⟨w.heap.size + 1, 1, none⟩ = some (.int .u64 (m : Int)) ∧ W.cell? ⟨w.heap.size + 1, 2, none⟩ = some (.int .u64 (k : Int)) ∧ W.frozen? ⟨w.heap.size + 1, 0, none⟩ = false ∧ W.frozen? ⟨w.heap.size + 1, 1, none⟩ = false ∧ W.frozen? ⟨w.heap.size + 1, 2, none⟩ = false ∧ w.heap.size + 1 < W.heap.size ∧ W.cell? ⟨w.heap.size + 1 + 1, 0, none⟩ = some (.int .u64 0) ∧ W.cell? ⟨w.heap.size + 1 + 1, 1, none⟩ = some (.int .u64 0) ∧ W.cell? ⟨w.heap.size + 1 + 1, 2, none⟩ = some (.int .u64 0) ∧ W.frozen? ⟨w.heap.size + 1 + 1, 0, none⟩ = false ∧ W.frozen? ⟨w.heap.size + 1 + 1, 1, none⟩ = false ∧ W.frozen? ⟨w.heap.size + 1 + 1, 2, none⟩ = false ∧ w.heap.size + 1 + 1 < W.heap.size ∧ Below w.heap.size w W)
    (first | (with_reducible assumption) | (with_reducible exact HS.out) | (with_reducible exact drew3 HS.out) | (with_reducible exact st3b (by assumption)) | (with_reducible exact st3c (by assumption)) | (with_reducible exact keep3 (by assumption) (by assumption) (Nat.le_refl _)) | fail)
    (first | (go_at_call 26; ((with_reducible refine (none_any _).mono ?_); rintro e w1 ⟨rfl, hb1⟩)))
  clear a0 a1 a2 a3 a4 a5 a6 b0 b1 b2 b3 b4 b5 b6 c0 c1 c2 c3 c4 c5 c6 hg
  rename_i hS
  refine anyW (P := fun W => W.cell? ⟨w.heap.size, 0, none⟩ = some (.int .u64 (s : Int)) ∧ W.cell? ⟨w.heap.size, 1, none⟩ = some (.int .u64 (l : Int)) ∧ W.cell? ⟨w.heap.size, 2, none⟩ = some (.int .u64 (h : Int)) ∧ W.frozen? ⟨w.heap.size, 0, none⟩ = false ∧ W.frozen? ⟨w.heap.size, 1, none⟩ = false ∧ W.frozen? ⟨w.heap.size, 2, none⟩ = false ∧ w.heap.size < W.heap.size ∧ W.cell? ⟨w.heap.size + 1, 0, none⟩ = some (.int .u64 (t : Int)) ∧ W.cell? ⟨w.heap.size + 1, 1, none⟩ = some (.int .u64 (m : Int)) ∧ W.cell? ⟨w.heap.size + 1, 2, none⟩ = some (.int .u64 (k : Int)) ∧ W.frozen? ⟨w.heap.size + 1, 0, none⟩ = false ∧ W.frozen? ⟨w.heap.size + 1, 1, none⟩ = false ∧ W.frozen? ⟨w.heap.size + 1, 2, none⟩ = false ∧ w.heap.size + 1 < W.heap.size ∧ W.cell? ⟨w.heap.size + 1 + 1, 0, none⟩ = some (.int .u64 0) ∧ W.cell? ⟨w.heap.size + 1 + 1, 1, none⟩ = some (.int .u64 0) ∧ W.cell? ⟨w.heap.size + 1 + 1, 2, none⟩ = some (.int .u64 0) ∧ W.frozen? ⟨w.heap.size + 1 + 1, 0, none⟩ = false ∧ W.frozen? ⟨w.heap.size + 1 + 1, 1, none⟩ = false ∧ W.frozen? ⟨w.heap.size + 1 + 1, 2, none⟩ = false ∧ w.heap.size + 1 + 1 < W.heap.size ∧ Below w.heap.size w W) (Q := fun W => Exit.then _ _ _ _ W) hS ?_
  clear hS HS
  intro W hS
  have HS := Lib.hid hS
  obtain ⟨a0, a1, a2, a3, a4, a5, a6, b0, b1, b2, b3, b4, b5, b6, c0, c1, c2, c3, c4, c5, c6, hg⟩ := hS
  go_wp2
  go_region_held3 (fun W => W.cell? ⟨w.heap.size, 0, none⟩ = some (.int .u64 (s : Int)) ∧ W.cell? ⟨w.heap.size, 1, none⟩ = some (.int .u64 (l : Int)) ∧ W.cell? ⟨w.heap.size, 2, none⟩ = some (.int .u64 (h : Int)) ∧ W.frozen? ⟨w.heap.size, 0, none⟩ = false ∧ W.frozen? ⟨w.heap.size, 1, none⟩ = false ∧ W.frozen? ⟨w.heap.size, 2, none⟩ = false ∧ w.heap.size < W.heap.size ∧ W.cell? ⟨w.heap.size + 1, 0, none⟩ = some (.int .u64 (t : Int)) ∧ W.cell? ⟨w.heap.size + 1, 1, none⟩ = some (.int .u64 (m : Int)) ∧ W.cell? ⟨w.heap.size + 1, 2, none⟩ = some (.int .u64 (k : Int)) ∧ W.frozen? ⟨w.heap.size + 1, 0, none⟩ = false ∧ W.frozen? ⟨w.heap.size + 1, 1, none⟩ = false ∧ W.frozen? ⟨w.heap.size + 1, 2, none⟩ = false ∧ w.heap.size + 1 < W.heap.size ∧ W.cell? ⟨w.heap.size + 1 + 1, 0, none⟩ = some (.int .u64 0) ∧ W.cell? ⟨w.heap.size + 1 + 1, 1, none⟩ = some (.int .u64 0) ∧ W.cell? ⟨w.heap.size + 1 + 1, 2, none⟩ = some (.int .u64 0) ∧ W.frozen? ⟨w.heap.size + 1 + 1, 0, none⟩ = false ∧ W.frozen? ⟨w.heap.size + 1 + 1, 1, none⟩ = false ∧ W.frozen? ⟨w.heap.size + 1 + 1, 2, none⟩ = false ∧ w.heap.size + 1 + 1 < W.heap.size ∧ Below w.heap.size w W)
    (first | (with_reducible assumption) | (with_reducible exact HS.out) | (with_reducible exact drew3 HS.out) | (with_reducible exact st3b (by assumption)) | (with_reducible exact st3c (by assumption)) | (with_reducible exact keep3 (by assumption) (by assumption) (Nat.le_refl _)) | fail)
    (first | (go_at_call 26; ((with_reducible refine (none_any _).mono ?_); rintro e w1 ⟨rfl, hb1⟩)))
  clear a0 a1 a2 a3 a4 a5 a6 b0 b1 b2 b3 b4 b5 b6 c0 c1 c2 c3 c4 c5 c6 hg
  rename_i hS
  refine anyW (P := fun W => W.cell? ⟨w.heap.size, 0, none⟩ = some (.int .u64 (s : Int)) ∧ W.cell? ⟨w.heap.size, 1, none⟩ = some (.int .u64 (l : Int)) ∧ W.cell? ⟨w.heap.size, 2, none⟩ = some (.int .u64 (h : Int)) ∧ W.frozen? ⟨w.heap.size, 0, none⟩ = false ∧ W.frozen? ⟨w.heap.size, 1, none⟩ = false ∧ W.frozen? ⟨w.heap.size, 2, none⟩ = false ∧ w.heap.size < W.heap.size ∧ W.cell? ⟨w.heap.size + 1, 0, none⟩ = some (.int .u64 (t : Int)) ∧ W.cell? ⟨w.heap.size + 1, 1, none⟩ = some (.int .u64 (m : Int)) ∧ W.cell? ⟨w.heap.size + 1, 2, none⟩ = some (.int .u64 (k : Int)) ∧ W.frozen? ⟨w.heap.size + 1, 0, none⟩ = false ∧ W.frozen? ⟨w.heap.size + 1, 1, none⟩ = false ∧ W.frozen? ⟨w.heap.size + 1, 2, none⟩ = false ∧ w.heap.size + 1 < W.heap.size ∧ W.cell? ⟨w.heap.size + 1 + 1, 0, none⟩ = some (.int .u64 0) ∧ W.cell? ⟨w.heap.size + 1 + 1, 1, none⟩ = some (.int .u64 0) ∧ W.cell? ⟨w.heap.size + 1 + 1, 2, none⟩ = some (.int .u64 0) ∧ W.frozen? ⟨w.heap.size + 1 + 1, 0, none⟩ = false ∧ W.frozen? ⟨w.heap.size + 1 + 1, 1, none⟩ = false ∧ W.frozen? ⟨w.heap.size + 1 + 1, 2, none⟩ = false ∧ w.heap.size + 1 + 1 < W.heap.size ∧ Below w.heap.size w W) (Q := fun W => Exit.then _ _ _ _ W) hS ?_
  clear hS HS
  intro W hS
  have HS := Lib.hid hS
  obtain ⟨a0, a1, a2, a3, a4, a5, a6, b0, b1, b2, b3, b4, b5, b6, c0, c1, c2, c3, c4, c5, c6, hg⟩ := hS
  go_wp2
  replace HS := Lib.hid (ofS3 HS.out)
  refine wp_region_noPanic ?_
  refine wp_region_held_drew (S := fun W => W.cell? ⟨w.heap.size, 0, none⟩ = some (.int .u64 (s : Int)) ∧ W.cell? ⟨w.heap.size, 1, none⟩ = some (.int .u64 (l : Int)) ∧ W.cell? ⟨w.heap.size, 2, none⟩ = some (.int .u64 (h : Int)) ∧ W.frozen? ⟨w.heap.size, 0, none⟩ = false ∧ W.frozen? ⟨w.heap.size, 1, none⟩ = false ∧ W.frozen? ⟨w.heap.size, 2, none⟩ = false ∧ w.heap.size < W.heap.size ∧ W.cell? ⟨w.heap.size + 1, 0, none⟩ = some (.int .u64 (t : Int)) ∧ W.cell? ⟨w.heap.size + 1, 1, none⟩ = some (.int .u64 (m : Int)) ∧ W.cell? ⟨w.heap.size + 1, 2, none⟩ = some (.int .u64 (k : Int)) ∧ W.frozen? ⟨w.heap.size + 1, 0, none⟩ = false ∧ W.frozen? ⟨w.heap.size + 1, 1, none⟩ = false ∧ W.frozen? ⟨w.heap.size + 1, 2, none⟩ = false ∧ w.heap.size + 1 < W.heap.size ∧ W.cell? ⟨w.heap.size + 1 + 1, 0, none⟩ = some (cellv W (w.heap.size + 1 + 1) 0) ∧ W.cell? ⟨w.heap.size + 1 + 1, 1, none⟩ = some (cellv W (w.heap.size + 1 + 1) 1) ∧ W.cell? ⟨w.heap.size + 1 + 1, 2, none⟩ = some (cellv W (w.heap.size + 1 + 1) 2) ∧ W.frozen? ⟨w.heap.size + 1 + 1, 0, none⟩ = false ∧ W.frozen? ⟨w.heap.size + 1 + 1, 1, none⟩ = false ∧ W.frozen? ⟨w.heap.size + 1 + 1, 2, none⟩ = false ∧ w.heap.size + 1 + 1 < W.heap.size ∧ Below w.heap.size w W) (by kernel_rfl) ?_ (fun hHeld => ?_)
  · (first | (with_reducible assumption) | (with_reducible exact drewR HS.out) | (with_reducible exact stR (by omega) (by omega) (by omega) (by assumption)) | (with_reducible exact keepR3 (by assumption) (by assumption) (Nat.le_refl _)) | fail)
  refine wpAnyH_take (i := 0) (v := ?_) rfl (by kernel_rfl) (by kernel_rfl) (by kernel_rfl) (fun _ _ _ h => h) (Or.inl ⟨by rfl, ?_⟩) (by assumption) ?_
  rotate_left
  · intro w hSw
    go_simp
    try with_reducible rfl
  simp only [Act.put, List.setIfInBounds_toArray, List.set_cons_zero, List.set_cons_succ]
  refine wpAnyH_take (i := 1) (v := ?_) rfl (by kernel_rfl) (by kernel_rfl) (by kernel_rfl) (fun _ _ _ h => h) (Or.inl ⟨by rfl, ?_⟩) (by assumption) ?_
  rotate_left
  · intro w hSw
    go_simp
    try with_reducible rfl
  simp only [Act.put, List.setIfInBounds_toArray, List.set_cons_zero, List.set_cons_succ]
  refine wpAnyH_take (i := 2) (v := ?_) rfl (by kernel_rfl) (by kernel_rfl) (by kernel_rfl) (fun _ _ _ h => h) (Or.inl ⟨by rfl, ?_⟩) (by assumption) ?_
  rotate_left
  · intro w hSw
    go_simp
    try with_reducible rfl
  simp only [Act.put, List.setIfInBounds_toArray, List.set_cons_zero, List.set_cons_succ]
  refine wpAnyH_take (i := 3) (v := ?_) rfl (by kernel_rfl) (by kernel_rfl) (by kernel_rfl) (fun _ _ _ h => h) (Or.inl ⟨by rfl, ?_⟩) (by assumption) ?_
  rotate_left
  · intro w hSw
    go_simp
    try with_reducible rfl
  simp only [Act.put, List.setIfInBounds_toArray, List.set_cons_zero, List.set_cons_succ]
  refine wpAnyH_take (i := 5) (v := ?_) rfl (by kernel_rfl) (by kernel_rfl) (by kernel_rfl) (fun _ _ _ h => h) (Or.inl ⟨by rfl, ?_⟩) (by assumption) ?_
  rotate_left
  · intro w hSw
    go_simp
    try with_reducible rfl
  simp only [Act.put, List.setIfInBounds_toArray, List.set_cons_zero, List.set_cons_succ]
  refine wpAnyH_take (i := 7) (v := ?_) rfl (by kernel_rfl) (by kernel_rfl) (by kernel_rfl) (fun _ _ _ h => h) (Or.inl ⟨by rfl, ?_⟩) (by assumption) ?_
  rotate_left
  · intro w hSw
    go_simp
    try with_reducible rfl
  simp only [Act.put, List.setIfInBounds_toArray, List.set_cons_zero, List.set_cons_succ]
  refine wpAnyH_take (i := 8) (v := ?_) rfl (by kernel_rfl) (by kernel_rfl) (by kernel_rfl) (fun _ _ _ h => h) (Or.inl ⟨by rfl, ?_⟩) (by assumption) ?_
  rotate_left
  · intro w hSw
    go_simp
    try with_reducible rfl
  simp only [Act.put, List.setIfInBounds_toArray, List.set_cons_zero, List.set_cons_succ]
  refine wpAnyH_take (i := 9) (v := ?_) rfl (by kernel_rfl) (by kernel_rfl) (by kernel_rfl) (fun _ _ _ h => h) (Or.inl ⟨by rfl, ?_⟩) (by assumption) ?_
  rotate_left
  · intro w hSw
    go_simp
    try with_reducible rfl
  simp only [Act.put, List.setIfInBounds_toArray, List.set_cons_zero, List.set_cons_succ]
  refine wpAnyH_take (i := 10) (v := ?_) rfl (by kernel_rfl) (by kernel_rfl) (by kernel_rfl) (fun _ _ _ h => h) (Or.inl ⟨by rfl, ?_⟩) (by assumption) ?_
  rotate_left
  · intro w hSw
    go_simp
    try with_reducible rfl
  simp only [Act.put, List.setIfInBounds_toArray, List.set_cons_zero, List.set_cons_succ]
  refine wpAnyH_take (i := 11) (v := ?_) rfl (by kernel_rfl) (by kernel_rfl) (by kernel_rfl) (fun _ _ _ h => h) (Or.inl ⟨by rfl, ?_⟩) (by assumption) ?_
  rotate_left
  · intro w hSw
    go_simp
    try with_reducible rfl
  simp only [Act.put, List.setIfInBounds_toArray, List.set_cons_zero, List.set_cons_succ]
  refine wpAnyH_take (i := 12) (v := ?_) rfl (by kernel_rfl) (by kernel_rfl) (by kernel_rfl) (fun _ _ _ h => h) (Or.inl ⟨by rfl, ?_⟩) (by assumption) ?_
  rotate_left
  · intro w hSw
    go_simp
    try with_reducible rfl
  simp only [Act.put, List.setIfInBounds_toArray, List.set_cons_zero, List.set_cons_succ]
  refine wpAnyH_take (i := 13) (v := ?_) rfl (by kernel_rfl) (by kernel_rfl) (by kernel_rfl) (fun _ _ _ h => h) (Or.inl ⟨by rfl, ?_⟩) (by assumption) ?_
  rotate_left
  · intro w hSw
    go_simp
    try with_reducible rfl
  simp only [Act.put, List.setIfInBounds_toArray, List.set_cons_zero, List.set_cons_succ]
  refine wpAnyH_take (i := 14) (v := ?_) rfl (by kernel_rfl) (by kernel_rfl) (by kernel_rfl) (fun _ _ _ h => h) (Or.inl ⟨by rfl, ?_⟩) (by assumption) ?_
  rotate_left
  · intro w hSw
    go_simp
    try with_reducible rfl
  simp only [Act.put, List.setIfInBounds_toArray, List.set_cons_zero, List.set_cons_succ]
  refine wpAnyH_take (i := 15) (v := ?_) rfl (by kernel_rfl) (by kernel_rfl) (by kernel_rfl) (fun _ _ _ h => h) (Or.inl ⟨by rfl, ?_⟩) (by assumption) ?_
  rotate_left
  · intro w hSw
    go_simp
    try with_reducible rfl
  simp only [Act.put, List.setIfInBounds_toArray, List.set_cons_zero, List.set_cons_succ]
  refine wpAnyH_take (i := 16) (v := ?_) rfl (by kernel_rfl) (by kernel_rfl) (by kernel_rfl) (fun _ _ _ h => h) (Or.inl ⟨by rfl, ?_⟩) (by assumption) ?_
  rotate_left
  · intro w hSw
    go_simp
    try with_reducible rfl
  simp only [Act.put, List.setIfInBounds_toArray, List.set_cons_zero, List.set_cons_succ]
  refine wpAnyH_ready (rs := [4]) (by kernel_rfl) (by simp) ?_
  refine AllReadyH.cons rfl (fun K hK => ?_) AllReadyH.nil
  go_simp; go_at_call 29; (with_reducible refine (divisor_bel _ _ us ut _).mono ?_); rintro e w1 ⟨rfl, hb1⟩
  refine hK.out _ _ ?_ (fun hHeld => ?_)
  · (first | (with_reducible assumption) | (with_reducible exact drewR HS.out) | (with_reducible exact stR (by omega) (by omega) (by omega) (by assumption)) | (with_reducible exact keepR3 (by assumption) (by assumption) (Nat.le_refl _)) | fail)
  clear hK K
  try simp only [Act.put, List.setIfInBounds_toArray, List.set_cons_zero, List.set_cons_succ]
  refine wpAnyH_ready (rs := [6]) (by kernel_rfl) (by simp) ?_
  refine AllReadyH.cons rfl (fun K hK => ?_) AllReadyH.nil
  go_simp; go_at_call 29; (with_reducible refine (divisor_bel _ _ (U_gcd us ut) (U_sub (by assumption)) _).mono ?_); rintro e w1 ⟨rfl, hb1⟩
  refine hK.out _ _ ?_ (fun hHeld => ?_)
  · (first | (with_reducible assumption) | (with_reducible exact drewR HS.out) | (with_reducible exact stR (by omega) (by omega) (by omega) (by assumption)) | (with_reducible exact keepR3 (by assumption) (by assumption) (Nat.le_refl _)) | fail)
  clear hK K
  try simp only [Act.put, List.setIfInBounds_toArray, List.set_cons_zero, List.set_cons_succ]
  refine wpAnyH_take (i := 17) (v := ?_) rfl (by kernel_rfl) (by kernel_rfl) (by kernel_rfl) (fun _ _ _ h => h) (Or.inl ⟨by rfl, ?_⟩) (by assumption) ?_
  rotate_left
  · intro w hSw
    go_simp
    try with_reducible rfl
  simp only [Act.put, List.setIfInBounds_toArray, List.set_cons_zero, List.set_cons_succ]
  refine wpAnyH_ready (rs := [18]) (by kernel_rfl) (by simp) ?_
  refine AllReadyH.cons rfl (fun K hK => ?_) AllReadyH.nil
  go_simp
  refine hK.out _ _ ?_ (fun hHeld => ?_)
  · (first | (with_reducible assumption) | (with_reducible exact drewR HS.out) | (with_reducible exact stR (by omega) (by omega) (by omega) (by assumption)) | (with_reducible exact keepR3 (by assumption) (by assumption) (Nat.le_refl _)) | fail)
  clear hK K
  try simp only [Act.put, List.setIfInBounds_toArray, List.set_cons_zero, List.set_cons_succ]
  refine wpAnyH_done (by kernel_rfl) ?_ _
  refine NoPanic.normal ?_
  have hG := hHeld.2.2.2.2.2.2.2.2.2.2.2.2.2.2.2.2.2.2.2.2.2
  clear hHeld
  go_wp2
  refine bodyPost_ret (v := sv (Nat.gcd (Nat.gcd s t) (mx l m - mn l m)) (mn l m) (mx h k)) (by simp [results, Tryd.results10, go_sem, *]) rfl ⟨rfl, hG⟩
theorem join_any (s l h t m k : Nat) (us : U s) (ul : U l) (uh : U h) (ut : U t) (um : U m) (uk : U k) (ha : Rt ⟨s, l, h⟩) (hb : Rt ⟨t, m, k⟩) (w : World) :
    Calls Tryd.prog 10 #[sv s l h, sv t m k] w fun e w' => e = .returned (stv (joinS ⟨s, l, h⟩ ⟨t, m, k⟩)) ∧ Below w.heap.size w w' := by
  unfold joinS
  by_cases hn : (⟨s, l, h⟩ : St) = noneS
  · rw [if_pos hn]; exact join_none1 s l h t m k uh uk ha hb hn w
  · rw [if_neg hn]
    by_cases hm : (⟨t, m, k⟩ : St) = noneS
    · rw [if_pos hm]; exact join_none2 s l h t m k uh uk ha hb hn hm w
    · rw [if_neg hm]
      exact join_many s l h t m k us ul uh ut um uk ha hb hn hm w
end Go.Proofs.YtmlgaaolofgdiaaDoor
