/- Forms as arguments. -/
import Derived.Test.YtaeehinlgmijgaaDoorPw
import Derived.OpenShut
import Derived.ChangeSame
import Derived.RowKit3
namespace Go.Proofs.YtaeehinlgmijgaaDoor
open Go.ChangeShapes Go.WideShapes Go.ChangeAt Go.RowKit
set_option linter.unusedVariables false
set_option linter.unusedSimpArgs false
theorem list14 {α : Type} (l : List α) (h : l.length = 14) : ∃ a0 a1 a2 a3 a4 a5 a6 a7 a8 a9 a10 a11 a12 a13, l = [a0, a1, a2, a3, a4, a5, a6, a7, a8, a9, a10, a11, a12, a13] := by
  match l, h with
  | [a0, a1, a2, a3, a4, a5, a6, a7, a8, a9, a10, a11, a12, a13], _ => exact ⟨a0, a1, a2, a3, a4, a5, a6, a7, a8, a9, a10, a11, a12, a13, rfl⟩
theorem cells23 : Tryd.prog.cellsOf 23 = 14 := by kernel_rfl
theorem cellsC3 : Tryd.prog.cellsOf 3 = 1 := by kernel_rfl
theorem cellsC4 : Tryd.prog.cellsOf 4 = 1 := by kernel_rfl
theorem cellsC5 : Tryd.prog.cellsOf 5 = 1 := by kernel_rfl
set_option maxRecDepth 10000 in
set_option maxHeartbeats 2000000 in
theorem open_fm {H : Type} {enc : TypeId × Value → H} {w : World} {base : Nat} {spare : Nat → Bool} {held : Bool} {r0 : Reach} {b0 : Nat} {v : Value} {d0 : DataW H} {p0 : List MemPlace}
    (hv : Value.okWide Tryd.prog w r0 b0 23 v) (h : DataW.Trod enc Tryd.prog w base spare held 23 v d0 p0) :
    ∃ (x0 : Int) (x1 : Int) (x2 : Int) (x3 : Bool) (x4 : Int) (x5 : Int) (x6 : Int) (x7 : Int) (x8 : Int) (x9 : Int) (x10 : Bool) (x11 : Bool) (x12 : Bool) (x13 : Bool), v = (.agg #[.int .u8 x0, .int .u8 x1, .int .u8 x2, .bool x3, .int .i64 x4, .int .u8 x5, .int .u8 x6, .int .i64 x7, .int .u8 x8, .int .i64 x9, .bool x10, .bool x11, .bool x12, .bool x13]) ∧ d0 = (.agg [.lit (.int .u8 x0), .lit (.int .u8 x1), .lit (.int .u8 x2), .lit (.bool x3), .lit (.int .i64 x4), .lit (.int .u8 x5), .lit (.int .u8 x6), .lit (.int .i64 x7), .lit (.int .u8 x8), .lit (.int .i64 x9), .lit (.bool x10), .lit (.bool x11), .lit (.bool x12), .lit (.bool x13)]) ∧ p0 = [] ∧ (Lit.int .u8 x0).wf = true ∧ (Lit.int .u8 x1).wf = true ∧ (Lit.int .u8 x2).wf = true ∧ (Lit.int .i64 x4).wf = true ∧ (Lit.int .u8 x5).wf = true ∧ (Lit.int .u8 x6).wf = true ∧ (Lit.int .i64 x7).wf = true ∧ (Lit.int .u8 x8).wf = true ∧ (Lit.int .i64 x9).wf = true := by
  obtain ⟨cs, rfl, hsz, _⟩ : ∃ cs, v = .agg cs ∧ cs.size = Tryd.prog.cellsOf 23 ∧ Row.okWide Tryd.prog w r0 b0 23 cs := by
    simpa [Value.okWide, Tryd.underlying23] using hv
  rw [cells23] at hsz
  obtain ⟨l⟩ := cs
  obtain ⟨c0, c1, c2, c3, c4, c5, c6, c7, c8, c9, c10, c11, c12, c13, rfl⟩ := list14 l hsz
  obtain ⟨fuel, hf⟩ := h
  obtain ⟨xs, mm, _, hx, _, hlen, he⟩ := DataW.trod_struct Tryd.underlying23 hf
  obtain ⟨y0, y1, y2, y3, y4, y5, y6, y7, y8, y9, y10, y11, y12, y13, rfl⟩ := list14 xs hlen
  simp only [Value.cells] at he
  have t0 := he 0 _ rfl
  simp [cellsC5] at t0
  obtain ⟨x0, e0, rfl, w0⟩ := DataW.trod_int Tryd.underlying5 t0
  have t1 := he 1 _ rfl
  simp [cellsC5] at t1
  obtain ⟨x1, e1, rfl, w1⟩ := DataW.trod_int Tryd.underlying5 t1
  have t2 := he 2 _ rfl
  simp [cellsC5] at t2
  obtain ⟨x2, e2, rfl, w2⟩ := DataW.trod_int Tryd.underlying5 t2
  have t3 := he 3 _ rfl
  simp [cellsC4] at t3
  obtain ⟨x3, e3, rfl⟩ := DataW.trod_bool Tryd.underlying4 t3
  have t4 := he 4 _ rfl
  simp [cellsC3] at t4
  obtain ⟨x4, e4, rfl, w4⟩ := DataW.trod_int Tryd.underlying3 t4
  have t5 := he 5 _ rfl
  simp [cellsC5] at t5
  obtain ⟨x5, e5, rfl, w5⟩ := DataW.trod_int Tryd.underlying5 t5
  have t6 := he 6 _ rfl
  simp [cellsC5] at t6
  obtain ⟨x6, e6, rfl, w6⟩ := DataW.trod_int Tryd.underlying5 t6
  have t7 := he 7 _ rfl
  simp [cellsC3] at t7
  obtain ⟨x7, e7, rfl, w7⟩ := DataW.trod_int Tryd.underlying3 t7
  have t8 := he 8 _ rfl
  simp [cellsC5] at t8
  obtain ⟨x8, e8, rfl, w8⟩ := DataW.trod_int Tryd.underlying5 t8
  have t9 := he 9 _ rfl
  simp [cellsC3] at t9
  obtain ⟨x9, e9, rfl, w9⟩ := DataW.trod_int Tryd.underlying3 t9
  have t10 := he 10 _ rfl
  simp [cellsC4] at t10
  obtain ⟨x10, e10, rfl⟩ := DataW.trod_bool Tryd.underlying4 t10
  have t11 := he 11 _ rfl
  simp [cellsC4] at t11
  obtain ⟨x11, e11, rfl⟩ := DataW.trod_bool Tryd.underlying4 t11
  have t12 := he 12 _ rfl
  simp [cellsC4] at t12
  obtain ⟨x12, e12, rfl⟩ := DataW.trod_bool Tryd.underlying4 t12
  have t13 := he 13 _ rfl
  simp [cellsC4] at t13
  obtain ⟨x13, e13, rfl⟩ := DataW.trod_bool Tryd.underlying4 t13
  simp at e0 e1 e2 e3 e4 e5 e6 e7 e8 e9 e10 e11 e12 e13
  subst e0 e1 e2 e3 e4 e5 e6 e7 e8 e9 e10 e11 e12 e13
  simp only [Prod.mk.injEq] at hx
  obtain ⟨rfl, rfl⟩ := hx
  exact ⟨x0, x1, x2, x3, x4, x5, x6, x7, x8, x9, x10, x11, x12, x13, rfl, rfl, rfl, w0, w1, w2, w4, w5, w6, w7, w8, w9⟩
set_option maxHeartbeats 2000000 in
theorem shut_fm {H : Type} {enc : TypeId × Value → H} {w : World} {base : Nat} {spare : Nat → Bool} {held : Bool} {x0 : Int} {x1 : Int} {x2 : Int} {x3 : Bool} {x4 : Int} {x5 : Int} {x6 : Int} {x7 : Int} {x8 : Int} {x9 : Int} {x10 : Bool} {x11 : Bool} {x12 : Bool} {x13 : Bool} (h0 : (Lit.int .u8 x0).wf = true) (h1 : (Lit.int .u8 x1).wf = true) (h2 : (Lit.int .u8 x2).wf = true) (h4 : (Lit.int .i64 x4).wf = true) (h5 : (Lit.int .u8 x5).wf = true) (h6 : (Lit.int .u8 x6).wf = true) (h7 : (Lit.int .i64 x7).wf = true) (h8 : (Lit.int .u8 x8).wf = true) (h9 : (Lit.int .i64 x9).wf = true) :
    DataW.Trod enc Tryd.prog w base spare held 23 (.agg #[.int .u8 x0, .int .u8 x1, .int .u8 x2, .bool x3, .int .i64 x4, .int .u8 x5, .int .u8 x6, .int .i64 x7, .int .u8 x8, .int .i64 x9, .bool x10, .bool x11, .bool x12, .bool x13]) (.agg [.lit (.int .u8 x0), .lit (.int .u8 x1), .lit (.int .u8 x2), .lit (.bool x3), .lit (.int .i64 x4), .lit (.int .u8 x5), .lit (.int .u8 x6), .lit (.int .i64 x7), .lit (.int .u8 x8), .lit (.int .i64 x9), .lit (.bool x10), .lit (.bool x11), .lit (.bool x12), .lit (.bool x13)]) [] :=
  ⟨2, by simp [DataW.trod, Value.cells, Tryd.underlying23, cells23, Tryd.underlying3, Tryd.underlying4, Tryd.underlying5, cellsC3, cellsC4, cellsC5, h0, h1, h2, h4, h5, h6, h7, h8, h9]⟩
end Go.Proofs.YtaeehinlgmijgaaDoor
