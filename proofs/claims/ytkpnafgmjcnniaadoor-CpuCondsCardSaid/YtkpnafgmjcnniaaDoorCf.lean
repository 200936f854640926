/- Flags as arguments. -/
import Derived.Test.YtkpnafgmjcnniaaDoorCc
import Derived.OpenShut
import Derived.ChangeSame
import Derived.RowKit3
import Derived.Test.YtkpnafgmjcnniaaDoorLa
namespace Go.Proofs.YtkpnafgmjcnniaaDoor
open Go.ChangeShapes Go.WideShapes Go.ChangeAt Go.RowKit
set_option linter.unusedVariables false
set_option linter.unusedSimpArgs false
theorem list5 {α : Type} (l : List α) (h : l.length = 5) : ∃ a0 a1 a2 a3 a4, l = [a0, a1, a2, a3, a4] := by
  match l, h with
  | [a0, a1, a2, a3, a4], _ => exact ⟨a0, a1, a2, a3, a4, rfl⟩
theorem cells48 : Tryd.prog.cellsOf 48 = 5 := by kernel_rfl
theorem cellsB4 : Tryd.prog.cellsOf 4 = 1 := by kernel_rfl
set_option maxRecDepth 10000 in
theorem open_fl {H : Type} {enc : TypeId × Value → H} {w : World} {base : Nat} {spare : Nat → Bool} {held : Bool} {r0 : Reach} {b0 : Nat} {v : Value} {d0 : DataW H} {p0 : List MemPlace}
    (hv : Value.okWide Tryd.prog w r0 b0 48 v) (h : DataW.Trod enc Tryd.prog w base spare held 48 v d0 p0) :
    ∃ (C Z S O P : Bool), v = fl C Z S O P ∧ d0 = .agg [.lit (.bool C), .lit (.bool Z), .lit (.bool S), .lit (.bool O), .lit (.bool P)] ∧ p0 = [] := by
  obtain ⟨cs, rfl, hsz, _⟩ : ∃ cs, v = .agg cs ∧ cs.size = Tryd.prog.cellsOf 48 ∧ Row.okWide Tryd.prog w r0 b0 48 cs := by
    simpa [Value.okWide, Tryd.underlying48] using hv
  rw [cells48] at hsz
  obtain ⟨l⟩ := cs
  obtain ⟨c0, c1, c2, c3, c4, rfl⟩ := list5 l hsz
  obtain ⟨fuel, hf⟩ := h
  obtain ⟨xs, mm, _, hx, _, hlen, he⟩ := DataW.trod_struct Tryd.underlying48 hf
  obtain ⟨y0, y1, y2, y3, y4, rfl⟩ := list5 xs hlen
  simp only [Value.cells] at he
  have t0 := he 0 _ rfl
  simp [cellsB4] at t0
  obtain ⟨x0, e0, rfl⟩ := DataW.trod_bool Tryd.underlying4 t0
  have t1 := he 1 _ rfl
  simp [cellsB4] at t1
  obtain ⟨x1, e1, rfl⟩ := DataW.trod_bool Tryd.underlying4 t1
  have t2 := he 2 _ rfl
  simp [cellsB4] at t2
  obtain ⟨x2, e2, rfl⟩ := DataW.trod_bool Tryd.underlying4 t2
  have t3 := he 3 _ rfl
  simp [cellsB4] at t3
  obtain ⟨x3, e3, rfl⟩ := DataW.trod_bool Tryd.underlying4 t3
  have t4 := he 4 _ rfl
  simp [cellsB4] at t4
  obtain ⟨x4, e4, rfl⟩ := DataW.trod_bool Tryd.underlying4 t4
  simp at e0 e1 e2 e3 e4
  subst e0 e1 e2 e3 e4
  simp only [Prod.mk.injEq] at hx
  obtain ⟨rfl, rfl⟩ := hx
  exact ⟨x0, x1, x2, x3, x4, rfl, rfl, rfl⟩
theorem shut_fl {H : Type} {enc : TypeId × Value → H} {w : World} {base : Nat} {spare : Nat → Bool} {held : Bool} {C Z S O P : Bool} :
    DataW.Trod enc Tryd.prog w base spare held 48 (fl C Z S O P) (.agg [.lit (.bool C), .lit (.bool Z), .lit (.bool S), .lit (.bool O), .lit (.bool P)]) [] :=
  ⟨2, by simp [fl, DataW.trod, Value.cells, Tryd.underlying48, cells48, Tryd.underlying4, cellsB4]⟩
end Go.Proofs.YtkpnafgmjcnniaaDoor
