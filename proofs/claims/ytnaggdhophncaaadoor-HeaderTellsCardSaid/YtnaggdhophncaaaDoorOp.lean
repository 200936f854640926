/- Segments and sections as arguments. -/
import Derived.Test.YtnaggdhophncaaaDoorLa
import Derived.Test.YtnaggdhophncaaaDoorSe
import Derived.ChangeShapes
import Derived.ChangeSame
import Derived.ChangeSlices
import Derived.WideShapes
import Derived.OpenShut
import Derived.WalkArith
namespace Go.Proofs.YtnaggdhophncaaaDoor
open Go.ChangeShapes Go.WideShapes Go.WalkArith Go.RowKit
set_option linter.unusedVariables false
set_option linter.unusedSimpArgs false
theorem cu32 : Tryd.prog.cellsOf 28 = 1 := by kernel_rfl
theorem list7 {α : Type} (l : List α) (h : l.length = 7) : ∃ a0 a1 a2 a3 a4 a5 a6, l = [a0, a1, a2, a3, a4, a5, a6] := by
  match l, h with
  | [a0, a1, a2, a3, a4, a5, a6], _ => exact ⟨a0, a1, a2, a3, a4, a5, a6, rfl⟩
theorem cellsA30 : Tryd.prog.cellsOf 30 = 7 := by kernel_rfl
set_option maxRecDepth 10000 in
theorem trod_seg {H : Type} {enc : TypeId × Value → H} {w : World} {base : Nat} {sp : Nat → Bool} {held : Bool} {fuel : Nat} {cs : List Value} {y : DataW H × List MemPlace} (hl : cs.length = 7)
    (h : DataW.trod enc Tryd.prog w base sp held fuel 30 cs = some y) :
    ∃ x0 x1 x2 x3 x4 x5 x6 : Nat, cs = [.int .u32 (x0 : Nat), .int .u32 (x1 : Nat), .int .u64 (x2 : Nat), .int .u64 (x3 : Nat), .int .u64 (x4 : Nat), .int .u64 (x5 : Nat), .int .u64 (x6 : Nat)] ∧ y = (.agg [.lit (.int .u32 (x0 : Nat)), .lit (.int .u32 (x1 : Nat)), .lit (.int .u64 (x2 : Nat)), .lit (.int .u64 (x3 : Nat)), .lit (.int .u64 (x4 : Nat)), .lit (.int .u64 (x5 : Nat)), .lit (.int .u64 (x6 : Nat))], []) ∧ (V32 x0 ∧ V32 x1 ∧ U x2 ∧ U x3 ∧ U x4 ∧ U x5 ∧ U x6) := by
  obtain ⟨xs, m, _, hx, _, hlen, he⟩ := DataW.trod_struct Tryd.underlying30 h
  obtain ⟨y0, y1, y2, y3, y4, y5, y6, rfl⟩ := list7 xs hlen
  obtain ⟨c0, c1, c2, c3, c4, c5, c6, rfl⟩ := list7 cs hl
  have t0 := he 0 _ rfl
  simp [cu32] at t0
  have t1 := he 1 _ rfl
  simp [cu32] at t1
  have t2 := he 2 _ rfl
  simp [c23] at t2
  have t3 := he 3 _ rfl
  simp [c23] at t3
  have t4 := he 4 _ rfl
  simp [c23] at t4
  have t5 := he 5 _ rfl
  simp [c23] at t5
  have t6 := he 6 _ rfl
  simp [c23] at t6
  obtain ⟨z0, e0, rfl, w0⟩ := DataW.trod_int Tryd.underlying28 t0
  obtain ⟨z1, e1, rfl, w1⟩ := DataW.trod_int Tryd.underlying28 t1
  obtain ⟨z2, e2, rfl, w2⟩ := DataW.trod_int Tryd.underlying23 t2
  obtain ⟨z3, e3, rfl, w3⟩ := DataW.trod_int Tryd.underlying23 t3
  obtain ⟨z4, e4, rfl, w4⟩ := DataW.trod_int Tryd.underlying23 t4
  obtain ⟨z5, e5, rfl, w5⟩ := DataW.trod_int Tryd.underlying23 t5
  obtain ⟨z6, e6, rfl, w6⟩ := DataW.trod_int Tryd.underlying23 t6
  have b0 := Go.bounds_u32 w0
  obtain ⟨n0, rfl⟩ := Int.eq_ofNat_of_zero_le b0.1
  have b1 := Go.bounds_u32 w1
  obtain ⟨n1, rfl⟩ := Int.eq_ofNat_of_zero_le b1.1
  have b2 := Go.bounds_u64 w2
  obtain ⟨n2, rfl⟩ := Int.eq_ofNat_of_zero_le b2.1
  have b3 := Go.bounds_u64 w3
  obtain ⟨n3, rfl⟩ := Int.eq_ofNat_of_zero_le b3.1
  have b4 := Go.bounds_u64 w4
  obtain ⟨n4, rfl⟩ := Int.eq_ofNat_of_zero_le b4.1
  have b5 := Go.bounds_u64 w5
  obtain ⟨n5, rfl⟩ := Int.eq_ofNat_of_zero_le b5.1
  have b6 := Go.bounds_u64 w6
  obtain ⟨n6, rfl⟩ := Int.eq_ofNat_of_zero_le b6.1
  simp at e0 e1 e2 e3 e4 e5 e6
  subst e0 e1 e2 e3 e4 e5 e6
  refine ⟨n0, n1, n2, n3, n4, n5, n6, rfl, by rw [hx]; rfl, by unfold V32; omega, by unfold V32; omega, by unfold U; omega, by unfold U; omega, by unfold U; omega, by unfold U; omega, by unfold U; omega⟩
theorem open_seg {H : Type} {enc : TypeId × Value → H} {w : World} {base : Nat} {spare : Nat → Bool} {held : Bool} {r0 : Reach} {b0 : Nat} {v : Value} {d0 : DataW H} {p0 : List MemPlace}
    (hv : Value.okWide Tryd.prog w r0 b0 30 v) (h : DataW.Trod enc Tryd.prog w base spare held 30 v d0 p0) :
    ∃ x0 x1 x2 x3 x4 x5 x6 : Nat, v = .agg #[.int .u32 (x0 : Nat), .int .u32 (x1 : Nat), .int .u64 (x2 : Nat), .int .u64 (x3 : Nat), .int .u64 (x4 : Nat), .int .u64 (x5 : Nat), .int .u64 (x6 : Nat)] ∧ d0 = .agg [.lit (.int .u32 (x0 : Nat)), .lit (.int .u32 (x1 : Nat)), .lit (.int .u64 (x2 : Nat)), .lit (.int .u64 (x3 : Nat)), .lit (.int .u64 (x4 : Nat)), .lit (.int .u64 (x5 : Nat)), .lit (.int .u64 (x6 : Nat))] ∧ p0 = [] ∧ (V32 x0 ∧ V32 x1 ∧ U x2 ∧ U x3 ∧ U x4 ∧ U x5 ∧ U x6) := by
  obtain ⟨cs, rfl, hsz, _⟩ : ∃ cs, v = .agg cs ∧ cs.size = Tryd.prog.cellsOf 30 ∧ Row.okWide Tryd.prog w r0 b0 30 cs := by
    simpa [Value.okWide, Tryd.underlying30] using hv
  rw [cellsA30] at hsz
  obtain ⟨l⟩ := cs
  obtain ⟨fuel, hf⟩ := h
  obtain ⟨x0, x1, x2, x3, x4, x5, x6, e, ex, u⟩ := trod_seg (by simpa [Value.cells] using hsz) hf
  simp only [Value.cells] at e
  subst e
  simp only [Prod.mk.injEq] at ex
  obtain ⟨rfl, rfl⟩ := ex
  exact ⟨x0, x1, x2, x3, x4, x5, x6, rfl, rfl, rfl, u⟩
theorem shut_seg {H : Type} {enc : TypeId × Value → H} {w : World} {base : Nat} {spare : Nat → Bool} {held : Bool} {x0 x1 x2 x3 x4 x5 x6 : Nat} (hu : V32 x0 ∧ V32 x1 ∧ U x2 ∧ U x3 ∧ U x4 ∧ U x5 ∧ U x6) :
    DataW.Trod enc Tryd.prog w base spare held 30 (.agg #[.int .u32 (x0 : Nat), .int .u32 (x1 : Nat), .int .u64 (x2 : Nat), .int .u64 (x3 : Nat), .int .u64 (x4 : Nat), .int .u64 (x5 : Nat), .int .u64 (x6 : Nat)]) (.agg [.lit (.int .u32 (x0 : Nat)), .lit (.int .u32 (x1 : Nat)), .lit (.int .u64 (x2 : Nat)), .lit (.int .u64 (x3 : Nat)), .lit (.int .u64 (x4 : Nat)), .lit (.int .u64 (x5 : Nat)), .lit (.int .u64 (x6 : Nat))]) [] := by
  obtain ⟨u0, u1, u2, u3, u4, u5, u6⟩ := hu
  unfold V32 at u0
  have w0 : (Lit.int .u32 (x0 : Nat)).wf = true := wf_u32 (by omega)
  unfold V32 at u1
  have w1 : (Lit.int .u32 (x1 : Nat)).wf = true := wf_u32 (by omega)
  unfold U at u2
  have w2 : (Lit.int .u64 (x2 : Nat)).wf = true := wf_u64 (by omega)
  unfold U at u3
  have w3 : (Lit.int .u64 (x3 : Nat)).wf = true := wf_u64 (by omega)
  unfold U at u4
  have w4 : (Lit.int .u64 (x4 : Nat)).wf = true := wf_u64 (by omega)
  unfold U at u5
  have w5 : (Lit.int .u64 (x5 : Nat)).wf = true := wf_u64 (by omega)
  unfold U at u6
  have w6 : (Lit.int .u64 (x6 : Nat)).wf = true := wf_u64 (by omega)
  exact ⟨2, by simp [DataW.trod, Value.cells, Tryd.underlying30, cellsA30, Tryd.underlying23, c23, Tryd.underlying28, cu32, w0, w1, w2, w3, w4, w5, w6]⟩
theorem list5 {α : Type} (l : List α) (h : l.length = 5) : ∃ a0 a1 a2 a3 a4, l = [a0, a1, a2, a3, a4] := by
  match l, h with
  | [a0, a1, a2, a3, a4], _ => exact ⟨a0, a1, a2, a3, a4, rfl⟩
theorem cellsA32 : Tryd.prog.cellsOf 32 = 5 := by kernel_rfl
set_option maxRecDepth 10000 in
theorem trod_sec {H : Type} {enc : TypeId × Value → H} {w : World} {base : Nat} {sp : Nat → Bool} {held : Bool} {fuel : Nat} {cs : List Value} {y : DataW H × List MemPlace} (hl : cs.length = 5)
    (h : DataW.trod enc Tryd.prog w base sp held fuel 32 cs = some y) :
    ∃ x0 x1 x2 x3 x4 : Nat, cs = [.int .u32 (x0 : Nat), .int .u64 (x1 : Nat), .int .u64 (x2 : Nat), .int .u32 (x3 : Nat), .int .u64 (x4 : Nat)] ∧ y = (.agg [.lit (.int .u32 (x0 : Nat)), .lit (.int .u64 (x1 : Nat)), .lit (.int .u64 (x2 : Nat)), .lit (.int .u32 (x3 : Nat)), .lit (.int .u64 (x4 : Nat))], []) ∧ (V32 x0 ∧ U x1 ∧ U x2 ∧ V32 x3 ∧ U x4) := by
  obtain ⟨xs, m, _, hx, _, hlen, he⟩ := DataW.trod_struct Tryd.underlying32 h
  obtain ⟨y0, y1, y2, y3, y4, rfl⟩ := list5 xs hlen
  obtain ⟨c0, c1, c2, c3, c4, rfl⟩ := list5 cs hl
  have t0 := he 0 _ rfl
  simp [cu32] at t0
  have t1 := he 1 _ rfl
  simp [c23] at t1
  have t2 := he 2 _ rfl
  simp [c23] at t2
  have t3 := he 3 _ rfl
  simp [cu32] at t3
  have t4 := he 4 _ rfl
  simp [c23] at t4
  obtain ⟨z0, e0, rfl, w0⟩ := DataW.trod_int Tryd.underlying28 t0
  obtain ⟨z1, e1, rfl, w1⟩ := DataW.trod_int Tryd.underlying23 t1
  obtain ⟨z2, e2, rfl, w2⟩ := DataW.trod_int Tryd.underlying23 t2
  obtain ⟨z3, e3, rfl, w3⟩ := DataW.trod_int Tryd.underlying28 t3
  obtain ⟨z4, e4, rfl, w4⟩ := DataW.trod_int Tryd.underlying23 t4
  have b0 := Go.bounds_u32 w0
  obtain ⟨n0, rfl⟩ := Int.eq_ofNat_of_zero_le b0.1
  have b1 := Go.bounds_u64 w1
  obtain ⟨n1, rfl⟩ := Int.eq_ofNat_of_zero_le b1.1
  have b2 := Go.bounds_u64 w2
  obtain ⟨n2, rfl⟩ := Int.eq_ofNat_of_zero_le b2.1
  have b3 := Go.bounds_u32 w3
  obtain ⟨n3, rfl⟩ := Int.eq_ofNat_of_zero_le b3.1
  have b4 := Go.bounds_u64 w4
  obtain ⟨n4, rfl⟩ := Int.eq_ofNat_of_zero_le b4.1
  simp at e0 e1 e2 e3 e4
  subst e0 e1 e2 e3 e4
  refine ⟨n0, n1, n2, n3, n4, rfl, by rw [hx]; rfl, by unfold V32; omega, by unfold U; omega, by unfold U; omega, by unfold V32; omega, by unfold U; omega⟩
theorem open_sec {H : Type} {enc : TypeId × Value → H} {w : World} {base : Nat} {spare : Nat → Bool} {held : Bool} {r0 : Reach} {b0 : Nat} {v : Value} {d0 : DataW H} {p0 : List MemPlace}
    (hv : Value.okWide Tryd.prog w r0 b0 32 v) (h : DataW.Trod enc Tryd.prog w base spare held 32 v d0 p0) :
    ∃ x0 x1 x2 x3 x4 : Nat, v = .agg #[.int .u32 (x0 : Nat), .int .u64 (x1 : Nat), .int .u64 (x2 : Nat), .int .u32 (x3 : Nat), .int .u64 (x4 : Nat)] ∧ d0 = .agg [.lit (.int .u32 (x0 : Nat)), .lit (.int .u64 (x1 : Nat)), .lit (.int .u64 (x2 : Nat)), .lit (.int .u32 (x3 : Nat)), .lit (.int .u64 (x4 : Nat))] ∧ p0 = [] ∧ (V32 x0 ∧ U x1 ∧ U x2 ∧ V32 x3 ∧ U x4) := by
  obtain ⟨cs, rfl, hsz, _⟩ : ∃ cs, v = .agg cs ∧ cs.size = Tryd.prog.cellsOf 32 ∧ Row.okWide Tryd.prog w r0 b0 32 cs := by
    simpa [Value.okWide, Tryd.underlying32] using hv
  rw [cellsA32] at hsz
  obtain ⟨l⟩ := cs
  obtain ⟨fuel, hf⟩ := h
  obtain ⟨x0, x1, x2, x3, x4, e, ex, u⟩ := trod_sec (by simpa [Value.cells] using hsz) hf
  simp only [Value.cells] at e
  subst e
  simp only [Prod.mk.injEq] at ex
  obtain ⟨rfl, rfl⟩ := ex
  exact ⟨x0, x1, x2, x3, x4, rfl, rfl, rfl, u⟩
theorem shut_sec {H : Type} {enc : TypeId × Value → H} {w : World} {base : Nat} {spare : Nat → Bool} {held : Bool} {x0 x1 x2 x3 x4 : Nat} (hu : V32 x0 ∧ U x1 ∧ U x2 ∧ V32 x3 ∧ U x4) :
    DataW.Trod enc Tryd.prog w base spare held 32 (.agg #[.int .u32 (x0 : Nat), .int .u64 (x1 : Nat), .int .u64 (x2 : Nat), .int .u32 (x3 : Nat), .int .u64 (x4 : Nat)]) (.agg [.lit (.int .u32 (x0 : Nat)), .lit (.int .u64 (x1 : Nat)), .lit (.int .u64 (x2 : Nat)), .lit (.int .u32 (x3 : Nat)), .lit (.int .u64 (x4 : Nat))]) [] := by
  obtain ⟨u0, u1, u2, u3, u4⟩ := hu
  unfold V32 at u0
  have w0 : (Lit.int .u32 (x0 : Nat)).wf = true := wf_u32 (by omega)
  unfold U at u1
  have w1 : (Lit.int .u64 (x1 : Nat)).wf = true := wf_u64 (by omega)
  unfold U at u2
  have w2 : (Lit.int .u64 (x2 : Nat)).wf = true := wf_u64 (by omega)
  unfold V32 at u3
  have w3 : (Lit.int .u32 (x3 : Nat)).wf = true := wf_u32 (by omega)
  unfold U at u4
  have w4 : (Lit.int .u64 (x4 : Nat)).wf = true := wf_u64 (by omega)
  exact ⟨2, by simp [DataW.trod, Value.cells, Tryd.underlying32, cellsA32, Tryd.underlying23, c23, Tryd.underlying28, cu32, w0, w1, w2, w3, w4]⟩
end Go.Proofs.YtnaggdhophncaaaDoor
