/- Ranges and rows of them that come in. -/
import Derived.Test.YtaaflkjdcablcaaA
import Derived.ChangeShapes
import Derived.ChangeSame
import Derived.ChangeSlices
import Derived.WideShapes
import Derived.OpenShut
import Derived.WalkArith
namespace Go.Proofs.Ytaaflkjdcablcaa
open Go.ChangeShapes Go.WideShapes Go.WalkArith
set_option linter.unusedVariables false
set_option linter.unusedSimpArgs false
theorem list2 {α : Type} (l : List α) (h : l.length = 2) : ∃ a b, l = [a, b] := by
  match l, h with
  | [a, b], _ => exact ⟨a, b, rfl⟩
theorem cells25r : Try.prog.cellsOf 25 = 2 := by kernel_rfl
theorem cells23r : Try.prog.cellsOf 23 = 1 := by kernel_rfl
theorem trod_rg {H : Type} {enc : TypeId × Value → H} {w : World} {base : Nat} {sp : Nat → Bool} {held : Bool} {fuel : Nat} {cs : List Value} {x : DataW H × List MemPlace} (hl : cs.length = 2)
    (h : DataW.trod enc Try.prog w base sp held fuel 25 cs = some x) :
    ∃ lo hi : Nat, cs = [.int .u64 (lo : Nat), .int .u64 (hi : Nat)] ∧ x = (.agg [.lit (.int .u64 (lo : Nat)), .lit (.int .u64 (hi : Nat))], []) ∧ U lo ∧ U hi := by
  obtain ⟨y0, y1, n, rfl, _, h0, h1⟩ := trod_struct2 Try.underlying25 h
  obtain ⟨c0, c1, rfl⟩ := list2 cs hl
  simp [cells23r] at h0 h1
  obtain ⟨m0, e0, rfl, w0⟩ := DataW.trod_int Try.underlying23 h0
  obtain ⟨m1, e1, rfl, w1⟩ := DataW.trod_int Try.underlying23 h1
  have b0 := Go.bounds_u64 w0
  have b1 := Go.bounds_u64 w1
  obtain ⟨lo, rfl⟩ := Int.eq_ofNat_of_zero_le b0.1
  obtain ⟨hi, rfl⟩ := Int.eq_ofNat_of_zero_le b1.1
  simp at e0 e1
  subst e0 e1
  exact ⟨lo, hi, rfl, rfl, by unfold U; omega, by unfold U; omega⟩
def rgOf {H : Type} (y : DataW H × List MemPlace) : Rg := match y.1 with | .agg [.lit (.int _ a), .lit (.int _ b)] => (a.toNat, b.toNat) | _ => (0, 0)
theorem open_rs {H : Type} {enc : TypeId × Value → H} {W : World} {base : Nat} {held : Bool} {ad : Option Addr} {len cap : Nat} {d : DataW H} {p : List MemPlace}
    (h : DataW.Trod enc Try.prog W base (fun _ => true) held 22 (.slice ad len cap) d p) : ∃ zs : List Rg, OkL zs ∧ zs.length = len ∧ (ad = none → cap = 0) ∧ RD W ad zs := by
  obtain ⟨fuel, hf⟩ := h
  rcases DataW.trod_slice Try.underlying22 hf with ⟨hcs, _⟩ | ⟨a, l, c, elems, rest, n, _, hcs, _, hb, hl, hm, hlen, hel, _, _⟩
  · simp [Value.cells] at hcs
    obtain ⟨rfl, rfl, rfl⟩ := hcs
    exact ⟨[], fun _ h => by simp at h, rfl, fun _ => rfl, fun k hk => by simp at hk⟩
  · simp [Value.cells] at hcs
    obtain ⟨rfl, rfl, rfl⟩ := hcs
    rw [cells25r] at hel
    have each : ∀ i, i < elems.length → ∃ lo hi : Nat, elems[i]? = some (.agg [.lit (.int .u64 (lo : Nat)), .lit (.int .u64 (hi : Nat))], []) ∧ U lo ∧ U hi ∧ W.cell? ((a.add (i * 2)).add 0) = some (.int .u64 (lo : Nat)) ∧ W.cell? ((a.add (i * 2)).add 1) = some (.int .u64 (hi : Nat)) := by
      intro i hi
      have h1 := hel i (by omega)
      rw [List.getElem?_eq_getElem hi, Option.bind_eq_some_iff] at h1
      obtain ⟨cs, hc, hy⟩ := h1
      obtain ⟨_, hn, hcell⟩ := World.cells?_some hc
      obtain ⟨lo, hi', rfl, e, u0, u1⟩ := trod_rg hn hy
      refine ⟨lo, hi', by rw [List.getElem?_eq_getElem hi, e], u0, u1, ?_, ?_⟩
      · simpa using hcell 0 (by simp)
      · simpa using hcell 1 (by simp)
    refine ⟨elems.map rgOf, ?_, by simpa using hlen, fun h => by simp at h, ?_⟩
    · intro r hr
      obtain ⟨y, hy, rfl⟩ := List.mem_map.1 hr
      obtain ⟨i, hi⟩ := List.getElem?_of_mem hy
      obtain ⟨lo, hi', e, u0, u1, _⟩ := each i (List.getElem?_eq_some_iff.1 hi).1
      rw [hi] at e
      obtain rfl := Option.some.inj e
      exact ⟨by simpa [rgOf] using u0, by simpa [rgOf] using u1⟩
    · intro k hk
      obtain ⟨lo, hi', e, u0, u1, c0, c1⟩ := each k (by simpa using hk)
      obtain ⟨b, off, spot⟩ := a
      obtain ⟨lo', hi'', _, _, _, c0', _⟩ := each 0 (by simp at hk; omega)
      have hspot : spot = none := World.cell?_spot (by simpa [Addr.add] using c0')
      subst hspot
      have ez : (elems.map rgOf).getD k (0, 0) = (lo, hi') := by rw [List.getD, List.getElem?_map, e]; simp [rgOf]
      refine ⟨b, off, rfl, ?_, ?_⟩
      · unfold zl; rw [ez]; simpa [Addr.add_lit] using c0
      · unfold zh; rw [ez]; simpa [Addr.add_lit] using c1
theorem open_rg {H : Type} {enc : TypeId × Value → H} {w : World} {base : Nat} {spare : Nat → Bool} {held : Bool} {r0 : Reach} {b0 : Nat} {v : Value} {d0 : DataW H} {p0 : List MemPlace}
    (hv : Value.okWide Try.prog w r0 b0 25 v) (h : DataW.Trod enc Try.prog w base spare held 25 v d0 p0) :
    ∃ z : Rg, v = .agg #[.int .u64 (z.1 : Nat), .int .u64 (z.2 : Nat)] ∧ d0 = .agg [.lit (.int .u64 (z.1 : Nat)), .lit (.int .u64 (z.2 : Nat))] ∧ p0 = [] ∧ (U z.1 ∧ U z.2) := by
  obtain ⟨cs, rfl, hsz, _⟩ : ∃ cs, v = .agg cs ∧ cs.size = Try.prog.cellsOf 25 ∧ Row.okWide Try.prog w r0 b0 25 cs := by
    simpa [Value.okWide, Try.underlying25] using hv
  rw [cells25r] at hsz
  obtain ⟨l⟩ := cs
  obtain ⟨fuel, hf⟩ := h
  obtain ⟨lo, hi, e, ex, u0, u1⟩ := trod_rg (by simpa [Value.cells] using hsz) hf
  simp only [Value.cells] at e
  subst e
  simp only [Prod.mk.injEq] at ex
  obtain ⟨rfl, rfl⟩ := ex
  exact ⟨(lo, hi), rfl, rfl, rfl, u0, u1⟩
theorem shut_rg {H : Type} {enc : TypeId × Value → H} {w : World} {base : Nat} {spare : Nat → Bool} {held : Bool} {z : Rg} (hu : U z.1 ∧ U z.2) :
    DataW.Trod enc Try.prog w base spare held 25 (.agg #[.int .u64 (z.1 : Nat), .int .u64 (z.2 : Nat)]) (.agg [.lit (.int .u64 (z.1 : Nat)), .lit (.int .u64 (z.2 : Nat))]) [] := by
  obtain ⟨a, b⟩ := hu
  unfold U at a b
  have wa : (Lit.int .u64 (z.1 : Nat)).wf = true := wf_u64 (by omega)
  have wb : (Lit.int .u64 (z.2 : Nat)).wf = true := wf_u64 (by omega)
  exact ⟨2, by simp [DataW.trod, Value.cells, Try.underlying25, cells25r, Try.underlying23, cells23r, wa, wb]⟩
end Go.Proofs.Ytaaflkjdcablcaa
