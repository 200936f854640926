/- api.Flags as an argument: opened and shut. -/
import Derived.Test.YtmfoeolllobidaaDoorAlu
import Derived.Test.YtmfoeolllobidaaDoorLaid
import Derived.Lib.SmallJoins
namespace Go.Proofs.YtmfoeolllobidaaDoor
open Go.RowKit Go.ChangeShapes Go.WideShapes Go.Joins
set_option linter.unusedVariables false
theorem array5 {α : Type} {cs : Array α} (h : cs.size = 5) : ∃ c0 c1 c2 c3 c4, cs = #[c0, c1, c2, c3, c4] := by
  obtain ⟨l⟩ := cs
  match l, h with
  | [c0, c1, c2, c3, c4], _ => exact ⟨c0, c1, c2, c3, c4, rfl⟩
theorem list5 {α : Type} {l : List α} (h : l.length = 5) : ∃ c0 c1 c2 c3 c4, l = [c0, c1, c2, c3, c4] := by
  match l, h with
  | [c0, c1, c2, c3, c4], _ => exact ⟨c0, c1, c2, c3, c4, rfl⟩
theorem open_fl {H : Type} {enc : TypeId × Value → H} {w : World} {base : Nat} {spare : Nat → Bool} {held : Bool} {r : Reach} {b0 : Nat} {v : Value} {d : DataW H} {p : List MemPlace}
    (hv : Value.okWide Tryd.prog w r b0 24 v) (h : DataW.Trod enc Tryd.prog w base spare held 24 v d p) :
    ∃ c z s o q : Bool, v = fl c z s o q ∧ d = .agg [.lit (.bool c), .lit (.bool z), .lit (.bool s), .lit (.bool o), .lit (.bool q)] ∧ p = [] := by
  obtain ⟨cs, rfl, hsz⟩ := okWide_struct Tryd.underlying24 hv
  obtain ⟨c0, c1, c2, c3, c4, rfl⟩ := array5 (hsz.trans (by kernel_rfl))
  obtain ⟨fuel, hf⟩ := h
  obtain ⟨xs, n, _, hx, hl, hlen, hf⟩ := DataW.trod_struct Tryd.underlying24 hf
  obtain ⟨y0, y1, y2, y3, y4, rfl⟩ := list5 (hlen.trans (by rfl))
  have hC : Tryd.prog.cellsOf 4 = 1 := by kernel_rfl
  have t0 := hf 0 _ rfl
  have t1 := hf 1 _ rfl
  have t2 := hf 2 _ rfl
  have t3 := hf 3 _ rfl
  have t4 := hf 4 _ rfl
  simp [hC, Value.cells] at t0 t1 t2 t3 t4
  obtain ⟨x0, e0, rfl⟩ := DataW.trod_bool Tryd.underlying4 t0
  obtain ⟨x1, e1, rfl⟩ := DataW.trod_bool Tryd.underlying4 t1
  obtain ⟨x2, e2, rfl⟩ := DataW.trod_bool Tryd.underlying4 t2
  obtain ⟨x3, e3, rfl⟩ := DataW.trod_bool Tryd.underlying4 t3
  obtain ⟨x4, e4, rfl⟩ := DataW.trod_bool Tryd.underlying4 t4
  simp at e0 e1 e2 e3 e4
  subst e0 e1 e2 e3 e4
  simp at hx
  exact ⟨x0, x1, x2, x3, x4, rfl, hx.1, hx.2⟩
theorem shut_fl {H : Type} {enc : TypeId × Value → H} {w : World} {base : Nat} {spare : Nat → Bool} {held : Bool} {c z s o q : Bool} :
    DataW.Trod enc Tryd.prog w base spare held 24 (fl c z s o q) (.agg [.lit (.bool c), .lit (.bool z), .lit (.bool s), .lit (.bool o), .lit (.bool q)]) [] := by
  have hC : Tryd.prog.cellsOf 4 = 1 := by kernel_rfl
  have hC5 : Tryd.prog.cellsOf 24 = 5 := by kernel_rfl
  have := trod_struct_mk (enc := enc) (w := w) (base := base) (spare := spare) (held := held) (n := 1) (cs := [.bool c, .bool z, .bool s, .bool o, .bool q]) (xs := [(.lit (.bool c), []), (.lit (.bool z), []), (.lit (.bool s), []), (.lit (.bool o), []), (.lit (.bool q), [])]) Tryd.underlying24 (by simp [hC5]) (by simp [hC, DataW.trod, Tryd.underlying4])
  exact ⟨_, by simpa [Value.cells, fl] using this⟩
theorem nat_of_u8 {a : Int} (h : (Lit.int .u8 a).wf = true) : ∃ k : Nat, a = k ∧ k < 256 := by
  have hb := Go.bounds_u8 h
  obtain ⟨k, rfl⟩ := Int.eq_ofNat_of_zero_le hb.1
  exact ⟨k, rfl, by omega⟩
end Go.Proofs.YtmfoeolllobidaaDoor
