/- Rows of symbols that come in. -/
import Derived.Test.YtegbhjmghkbgmaaOe
namespace Go.Proofs.Ytegbhjmghkbgmaa
open Go.ChangeShapes Go.WideShapes Go.WalkArith Go.RowKit
set_option linter.unusedVariables false
set_option linter.unusedSimpArgs false
theorem list4 {α : Type} (l : List α) (h : l.length = 4) : ∃ a b c d, l = [a, b, c, d] := by
  match l, h with
  | [a, b, c, d], _ => exact ⟨a, b, c, d, rfl⟩
theorem c42 : Try.prog.cellsOf 42 = 4 := by kernel_rfl
theorem c4b : Try.prog.cellsOf 4 = 1 := by kernel_rfl
def Sy.okk (s : Sy) : Prop := U s.2.1 ∧ U s.2.2.1
set_option maxRecDepth 10000 in
theorem trod_sy {H : Type} {enc : TypeId × Value → H} {w : World} {base : Nat} {sp : Nat → Bool} {held : Bool} {fuel : Nat} {cs : List Value} {y : DataW H × List MemPlace} (hl : cs.length = 4)
    (h : DataW.trod enc Try.prog w base sp held fuel 42 cs = some y) : ∃ s : Sy, cs = s.cs ∧ s.okk ∧ s.1.size ≤ maxLen := by
  obtain ⟨xs, m, _, hx, _, hlen, he⟩ := DataW.trod_struct Try.underlying42 h
  obtain ⟨y0, y1, y2, y3, rfl⟩ := list4 xs hlen
  obtain ⟨x0, x1, x2, x3, rfl⟩ := list4 cs hl
  have t0 := he 0 _ rfl
  simp [c9] at t0
  have t1 := he 1 _ rfl
  simp [c28] at t1
  have t2 := he 2 _ rfl
  simp [c28] at t2
  have t3 := he 3 _ rfl
  simp [c4b] at t3
  obtain ⟨s, e0, _, w0⟩ := DataW.trod_string Try.underlying9 t0
  obtain ⟨z1, e1, _, w1⟩ := DataW.trod_int Try.underlying28 t1
  obtain ⟨z2, e2, _, w2⟩ := DataW.trod_int Try.underlying28 t2
  obtain ⟨z3, e3, _⟩ := DataW.trod_bool Try.underlying4 t3
  have b1 := Go.bounds_u64 w1
  have b2 := Go.bounds_u64 w2
  obtain ⟨n1, rfl⟩ := Int.eq_ofNat_of_zero_le b1.1
  obtain ⟨n2, rfl⟩ := Int.eq_ofNat_of_zero_le b2.1
  simp at e0 e1 e2 e3
  subst e0 e1 e2 e3
  refine ⟨(s, n1, n2, z3), rfl, ?_, w0⟩
  unfold Sy.okk U
  dsimp only
  omega
def SysIn (W : World) (ad : Option Addr) (len : Nat) (zs : List Sy) : Prop := (∀ x, x ∈ zs → x.okk) ∧ (∀ x, x ∈ zs → x.1.size ≤ 9223372036854775807) ∧ zs.length = len ∧ len ≤ 9223372036854775807 ∧ RX W ad (zs.flatMap Sy.cs)
theorem open_sy {H : Type} {enc : TypeId × Value → H} {W : World} {base : Nat} {held : Bool} {ad : Option Addr} {len cap : Nat} {d : DataW H} {p : List MemPlace}
    (h : DataW.Trod enc Try.prog W base (fun _ => true) held 36 (.slice ad len cap) d p) : ∃ zs : List Sy, SysIn W ad len zs := by
  obtain ⟨fuel, hf⟩ := h
  rcases DataW.trod_slice Try.underlying36 hf with ⟨hcs, _⟩ | ⟨a, l, c, elems, rest, n, _, hcs, _, hb, hl, hm, hlen, hel, _, _⟩
  · simp [Value.cells] at hcs
    obtain ⟨rfl, rfl, rfl⟩ := hcs
    exact ⟨[], (fun x h => by simp at h), (fun x h => by simp at h), rfl, by decide, fun h => by simp at h⟩
  · simp [Value.cells] at hcs
    obtain ⟨rfl, rfl, rfl⟩ := hcs
    rw [c42] at hel
    have each : ∀ i, i < len → ∃ s : Sy, s.okk ∧ s.1.size ≤ maxLen ∧ ∀ j u, s.cs[j]? = some u → W.cell? ((a.add (i * 4)).add j) = some u := by
      intro i hi
      have h1 := hel i (by omega)
      rw [List.getElem?_eq_getElem (by omega), Option.bind_eq_some_iff] at h1
      obtain ⟨cs, hc, hy⟩ := h1
      obtain ⟨_, hn, hcell⟩ := World.cells?_some hc
      obtain ⟨s, rfl, h2, h3⟩ := trod_sy hn hy
      refine ⟨s, h2, h3, fun j u hu => ?_⟩
      have hj := (List.getElem?_eq_some_iff.1 hu).1
      exact (hcell j (by rw [hn] at hj; exact hj)).trans hu
    obtain ⟨zs, hz, hP⟩ := choose_list len _ each
    refine ⟨zs, fun x hx => ?_, fun x hx => ?_, hz, by have := hl; have := hm; simp [maxLen] at *; omega, fun hpos => ?_⟩
    · obtain ⟨i, hi⟩ := List.getElem?_of_mem hx
      exact (hP i x hi).1
    · obtain ⟨i, hi⟩ := List.getElem?_of_mem hx
      have := (hP i x hi).2.1
      simpa [maxLen] using this
    · rw [flat_len Sy_len] at hpos
      obtain ⟨b, off, spot⟩ := a
      have h0 : 0 < zs.length := by omega
      have hc0 := (hP 0 _ (List.getElem?_eq_getElem h0)).2.2 0 _ rfl
      have hspot : spot = none := World.cell?_spot (by simpa [Addr.add] using hc0)
      subst hspot
      refine ⟨b, off, rfl, fun j u hu => ?_⟩
      have hj := (List.getElem?_eq_some_iff.1 hu).1
      rw [flat_len Sy_len] at hj
      have hk : j / 4 < zs.length := by omega
      have e := flat_at Sy_len zs (j / 4) (j % 4) _ (List.getElem?_eq_getElem hk) (by omega)
      rw [show j / 4 * 4 + j % 4 = j by omega, hu] at e
      have := (hP (j / 4) _ (List.getElem?_eq_getElem hk)).2.2 (j % 4) u e.symm
      rw [Addr.add_lit, Addr.add_lit, Nat.add_assoc, show j / 4 * 4 + j % 4 = j by omega] at this
      exact this
end Go.Proofs.Ytegbhjmghkbgmaa
