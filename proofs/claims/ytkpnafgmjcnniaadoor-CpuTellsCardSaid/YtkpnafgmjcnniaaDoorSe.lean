/- operand.second, taker's functions, shortest. -/
import Derived.Test.YtkpnafgmjcnniaaDoorSm
import Derived.IntWalk
namespace Go.Proofs.YtkpnafgmjcnniaaDoor
open Go.RowKit
set_option linter.unusedVariables false
set_option linter.unusedSimpArgs false
def seI (mid g2 i : Int) : Int := if mid + g2 = 4 then i else mid + g2
def seS (mid g2 s top : Int) : Int := if mid + g2 = 4 then s else 2 ^ top.toNat
def seB (lo g1 b mode : Int) : Int := if lo = 5 ∧ mode = 0 then b else lo + g1
def seW (lo width mode : Int) : Int := if lo = 5 ∧ mode = 0 then 4 else width
set_option maxHeartbeats 4000000 in
theorem second_core (k r b i s d : Int) (p : Bool) (m x rex width mode lo mid top g1 g2 : Int) (w : World) (b0 : 0 ≤ lo) (b1 : lo < 8) (b2 : 0 ≤ mid) (b3 : mid < 8) (b4 : 0 ≤ g1) (b5 : g1 ≤ 8) (b6 : 0 ≤ g2) (b7 : g2 ≤ 8)
    (e7 : bits .and .u8 x 7 = lo) (e8 : bits .and .u8 (x / 8) 7 = mid) (e64 : x / 64 = top) (ht : top = 0 ∨ top = 1 ∨ top = 2 ∨ top = 3)
    (h1 : ∀ W, Calls Tryd.prog 43 #[.int .u8 rex, .int .u8 1] W fun e w' => e = .returned (.int .i64 g1) ∧ W = w') (h2 : ∀ W, Calls Tryd.prog 43 #[.int .u8 rex, .int .u8 2] W fun e w' => e = .returned (.int .i64 g2) ∧ W = w') :
    Calls Tryd.prog 44 #[ov k r b i s d p m, .int .u8 x, .int .u8 rex, .int .i64 width, .int .u8 mode] w fun e w' => e = .returned (.tuple #[ov k r (seB lo g1 b mode) (seI mid g2 i) (seS mid g2 s top) d p m, .int .i64 (seW lo width mode)]) ∧ Below w.heap.size w w' := by
  have H1 := Lib.hid h1
  have H2 := Lib.hid h2
  clear h1 h2
  rcases ht with rfl | rfl | rfl | rfl
  all_goals
    go_enter Tryd.func44, Tryd.ntmps44
    go_wp2_with (first | (go_at_call 43; (with_reducible refine (H1.out _).mono ?_); rintro e w1 ⟨rfl, rfl⟩) | (go_at_call 43; (with_reducible refine (H2.out _).mono ?_); rintro e w1 ⟨rfl, rfl⟩))
    all_goals
      go_returns
      refine ⟨?_, by go_grown⟩
    all_goals
      clear H1 H2
      try simp only [beq_iff_eq, beq_eq_false_iff_ne, ne_eq, bne_iff_ne, bne_eq_false_iff_eq] at *
      simp [seB, seI, seS, seW, *]
end Go.Proofs.YtkpnafgmjcnniaaDoor
