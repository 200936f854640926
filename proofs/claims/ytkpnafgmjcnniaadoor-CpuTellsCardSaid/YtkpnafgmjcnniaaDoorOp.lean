/- Operands as arguments. -/
import Derived.Test.YtkpnafgmjcnniaaDoorSm
import Derived.OpenShut
import Derived.ChangeSame
import Derived.RowKit3
import Derived.Test.YtkpnafgmjcnniaaDoorLa
namespace Go.Proofs.YtkpnafgmjcnniaaDoor
open Go.ChangeShapes Go.WideShapes Go.ChangeAt Go.RowKit
set_option linter.unusedVariables false
set_option linter.unusedSimpArgs false
theorem list8 {α : Type} (l : List α) (h : l.length = 8) : ∃ a0 a1 a2 a3 a4 a5 a6 a7, l = [a0, a1, a2, a3, a4, a5, a6, a7] := by
  match l, h with
  | [a0, a1, a2, a3, a4, a5, a6, a7], _ => exact ⟨a0, a1, a2, a3, a4, a5, a6, a7, rfl⟩
theorem cells23 : Tryd.prog.cellsOf 23 = 8 := by kernel_rfl
theorem cellsC2 : Tryd.prog.cellsOf 2 = 1 := by kernel_rfl
theorem cellsC3 : Tryd.prog.cellsOf 3 = 1 := by kernel_rfl
theorem cellsC4 : Tryd.prog.cellsOf 4 = 1 := by kernel_rfl
theorem cellsC5 : Tryd.prog.cellsOf 5 = 1 := by kernel_rfl

set_option maxRecDepth 10000 in
theorem open_op {H : Type} {enc : TypeId × Value → H} {w : World} {base : Nat} {spare : Nat → Bool} {held : Bool} {r0 : Reach} {b0 : Nat} {v : Value} {d0 : DataW H} {p0 : List MemPlace}
    (hv : Value.okWide Tryd.prog w r0 b0 23 v) (h : DataW.Trod enc Tryd.prog w base spare held 23 v d0 p0) :
    ∃ (k r b i s d : Int) (p : Bool) (m : Int), v = ov k r b i s d p m ∧ d0 = .agg [.lit (.int .u8 k), .lit (.int .i64 r), .lit (.int .i64 b), .lit (.int .i64 i), .lit (.int .i64 s), .lit (.int .i64 d), .lit (.bool p), .lit (.int .i64 m)] ∧ p0 = [] ∧ (Lit.int .u8 k).wf = true ∧ (Lit.int .i64 r).wf = true ∧ (Lit.int .i64 b).wf = true ∧ (Lit.int .i64 i).wf = true ∧ (Lit.int .i64 s).wf = true ∧ (Lit.int .i64 d).wf = true ∧ (Lit.int .i64 m).wf = true := by
  obtain ⟨cs, rfl, hsz, _⟩ : ∃ cs, v = .agg cs ∧ cs.size = Tryd.prog.cellsOf 23 ∧ Row.okWide Tryd.prog w r0 b0 23 cs := by
    simpa [Value.okWide, Tryd.underlying23] using hv
  rw [cells23] at hsz
  obtain ⟨l⟩ := cs
  obtain ⟨c0, c1, c2, c3, c4, c5, c6, c7, rfl⟩ := list8 l hsz
  obtain ⟨fuel, hf⟩ := h
  obtain ⟨xs, mm, _, hx, _, hlen, he⟩ := DataW.trod_struct Tryd.underlying23 hf
  obtain ⟨y0, y1, y2, y3, y4, y5, y6, y7, rfl⟩ := list8 xs hlen
  simp only [Value.cells] at he
  have t0 := he 0 _ rfl
  simp [cellsC5] at t0
  obtain ⟨x0, e0, rfl, w0⟩ := DataW.trod_int Tryd.underlying5 t0
  have t1 := he 1 _ rfl
  simp [cellsC3] at t1
  obtain ⟨x1, e1, rfl, w1⟩ := DataW.trod_int Tryd.underlying3 t1
  have t2 := he 2 _ rfl
  simp [cellsC3] at t2
  obtain ⟨x2, e2, rfl, w2⟩ := DataW.trod_int Tryd.underlying3 t2
  have t3 := he 3 _ rfl
  simp [cellsC3] at t3
  obtain ⟨x3, e3, rfl, w3⟩ := DataW.trod_int Tryd.underlying3 t3
  have t4 := he 4 _ rfl
  simp [cellsC3] at t4
  obtain ⟨x4, e4, rfl, w4⟩ := DataW.trod_int Tryd.underlying3 t4
  have t5 := he 5 _ rfl
  simp [cellsC2] at t5
  obtain ⟨x5, e5, rfl, w5⟩ := DataW.trod_int Tryd.underlying2 t5
  have t6 := he 6 _ rfl
  simp [cellsC4] at t6
  obtain ⟨x6, e6, rfl⟩ := DataW.trod_bool Tryd.underlying4 t6
  have t7 := he 7 _ rfl
  simp [cellsC2] at t7
  obtain ⟨x7, e7, rfl, w7⟩ := DataW.trod_int Tryd.underlying2 t7
  simp at e0 e1 e2 e3 e4 e5 e6 e7
  subst e0 e1 e2 e3 e4 e5 e6 e7
  simp only [Prod.mk.injEq] at hx
  obtain ⟨rfl, rfl⟩ := hx
  exact ⟨x0, x1, x2, x3, x4, x5, x6, x7, rfl, rfl, rfl, w0, w1, w2, w3, w4, w5, w7⟩
theorem shut_op {H : Type} {enc : TypeId × Value → H} {w : World} {base : Nat} {spare : Nat → Bool} {held : Bool} {k r b i s d : Int} {p : Bool} {m : Int} (h0 : (Lit.int .u8 k).wf = true) (h1 : (Lit.int .i64 r).wf = true) (h2 : (Lit.int .i64 b).wf = true) (h3 : (Lit.int .i64 i).wf = true) (h4 : (Lit.int .i64 s).wf = true) (h5 : (Lit.int .i64 d).wf = true) (h7 : (Lit.int .i64 m).wf = true) :
    DataW.Trod enc Tryd.prog w base spare held 23 (ov k r b i s d p m) (.agg [.lit (.int .u8 k), .lit (.int .i64 r), .lit (.int .i64 b), .lit (.int .i64 i), .lit (.int .i64 s), .lit (.int .i64 d), .lit (.bool p), .lit (.int .i64 m)]) [] :=
  ⟨2, by simp [DataW.trod, Value.cells, Tryd.underlying23, cells23, Tryd.underlying2, Tryd.underlying3, Tryd.underlying4, Tryd.underlying5, cellsC2, cellsC3, cellsC4, cellsC5, h0, h1, h2, h3, h4, h5, h7]⟩
end Go.Proofs.YtkpnafgmjcnniaaDoor
