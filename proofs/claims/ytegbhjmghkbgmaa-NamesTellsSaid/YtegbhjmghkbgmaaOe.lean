/- Rows of entries that come in. -/
import Derived.Test.YtegbhjmghkbgmaaEc
import Derived.ChangeShapes
import Derived.ChangeSame
import Derived.ChangeSlices
import Derived.WideShapes
import Derived.OpenShut
import Derived.WalkArith
namespace Go.Proofs.Ytegbhjmghkbgmaa
open Go.ChangeShapes Go.WideShapes Go.WalkArith Go.RowKit
set_option linter.unusedVariables false
set_option linter.unusedSimpArgs false
theorem list5 {α : Type} (l : List α) (h : l.length = 5) : ∃ a b c d e, l = [a, b, c, d, e] := by
  match l, h with
  | [a, b, c, d, e], _ => exact ⟨a, b, c, d, e, rfl⟩
theorem c49 : Try.prog.cellsOf 49 = 5 := by kernel_rfl
theorem c9 : Try.prog.cellsOf 9 = 1 := by kernel_rfl
theorem c5 : Try.prog.cellsOf 5 = 1 := by kernel_rfl
theorem c47 : Try.prog.cellsOf 47 = 1 := by kernel_rfl
theorem c28 : Try.prog.cellsOf 28 = 1 := by kernel_rfl
set_option maxRecDepth 10000 in
theorem trod_en {H : Type} {enc : TypeId × Value → H} {w : World} {base : Nat} {sp : Nat → Bool} {held : Bool} {fuel : Nat} {cs : List Value} {y : DataW H × List MemPlace} (hl : cs.length = 5)
    (h : DataW.trod enc Try.prog w base sp held fuel 49 cs = some y) : ∃ s : En, cs = s.cs ∧ s.ok ∧ s.1.size ≤ maxLen := by
  obtain ⟨xs, m, _, hx, _, hlen, he⟩ := DataW.trod_struct Try.underlying49 h
  obtain ⟨y0, y1, y2, y3, y4, rfl⟩ := list5 xs hlen
  obtain ⟨x0, x1, x2, x3, x4, rfl⟩ := list5 cs hl
  have t0 := he 0 _ rfl
  simp [c9] at t0
  have t1 := he 1 _ rfl
  simp [c5] at t1
  have t2 := he 2 _ rfl
  simp [c47] at t2
  have t3 := he 3 _ rfl
  simp [c28] at t3
  have t4 := he 4 _ rfl
  simp [c28] at t4
  obtain ⟨s, e0, _, w0⟩ := DataW.trod_string Try.underlying9 t0
  obtain ⟨z1, e1, _, w1⟩ := DataW.trod_int Try.underlying5 t1
  obtain ⟨z2, e2, _, w2⟩ := DataW.trod_int Try.underlying47 t2
  obtain ⟨z3, e3, _, w3⟩ := DataW.trod_int Try.underlying28 t3
  obtain ⟨z4, e4, _, w4⟩ := DataW.trod_int Try.underlying28 t4
  have b1 := Go.bounds_u8 w1
  have b2 := Go.bounds_u16 w2
  have b3 := Go.bounds_u64 w3
  have b4 := Go.bounds_u64 w4
  obtain ⟨n1, rfl⟩ := Int.eq_ofNat_of_zero_le b1.1
  obtain ⟨n2, rfl⟩ := Int.eq_ofNat_of_zero_le b2.1
  obtain ⟨n3, rfl⟩ := Int.eq_ofNat_of_zero_le b3.1
  obtain ⟨n4, rfl⟩ := Int.eq_ofNat_of_zero_le b4.1
  simp at e0 e1 e2 e3 e4
  subst e0 e1 e2 e3 e4
  refine ⟨(s, n1, n2, n3, n4), rfl, ?_, w0⟩
  unfold En.ok U
  dsimp only
  omega
theorem choose_list {α : Type} (n : Nat) (P : Nat → α → Prop) (h : ∀ i, i < n → ∃ s, P i s) : ∃ zs : List α, zs.length = n ∧ ∀ i s, zs[i]? = some s → P i s := by
  induction n with
  | zero => exact ⟨[], rfl, fun i s hs => by simp at hs⟩
  | succ n ih =>
    obtain ⟨zs, hl, hz⟩ := ih (fun i hi => h i (by omega))
    obtain ⟨s, hs⟩ := h n (by omega)
    refine ⟨zs ++ [s], by simp [hl], fun i s' hi => ?_⟩
    by_cases hin : i < n
    · rw [List.getElem?_append_left (by omega)] at hi
      exact hz i s' hi
    · rw [List.getElem?_append_right (by omega)] at hi
      have : i - zs.length = 0 := by
        have := (List.getElem?_eq_some_iff.1 hi).1
        simp at this
        omega
      rw [this] at hi
      simp at hi
      subst hi
      have e : i = n := by omega
      rw [e]
      exact hs
def EnsIn (W : World) (ad : Option Addr) (len : Nat) (zs : List En) : Prop := (∀ x, x ∈ zs → x.ok) ∧ (∀ x, x ∈ zs → x.1.size ≤ 9223372036854775807) ∧ zs.length = len ∧ len ≤ 9223372036854775807 ∧ RX W ad (zs.flatMap En.cs)
theorem open_rs {H : Type} {enc : TypeId × Value → H} {W : World} {base : Nat} {held : Bool} {ad : Option Addr} {len cap : Nat} {d : DataW H} {p : List MemPlace}
    (h : DataW.Trod enc Try.prog W base (fun _ => true) held 22 (.slice ad len cap) d p) : ∃ zs : List En, EnsIn W ad len zs := by
  obtain ⟨fuel, hf⟩ := h
  rcases DataW.trod_slice Try.underlying22 hf with ⟨hcs, _⟩ | ⟨a, l, c, elems, rest, n, _, hcs, _, hb, hl, hm, hlen, hel, _, _⟩
  · simp [Value.cells] at hcs
    obtain ⟨rfl, rfl, rfl⟩ := hcs
    exact ⟨[], (fun x h => by simp at h), (fun x h => by simp at h), rfl, by decide, fun h => by simp at h⟩
  · simp [Value.cells] at hcs
    obtain ⟨rfl, rfl, rfl⟩ := hcs
    rw [c49] at hel
    have each : ∀ i, i < len → ∃ s : En, s.ok ∧ s.1.size ≤ maxLen ∧ ∀ j u, s.cs[j]? = some u → W.cell? ((a.add (i * 5)).add j) = some u := by
      intro i hi
      have h1 := hel i (by omega)
      rw [List.getElem?_eq_getElem (by omega), Option.bind_eq_some_iff] at h1
      obtain ⟨cs, hc, hy⟩ := h1
      obtain ⟨_, hn, hcell⟩ := World.cells?_some hc
      obtain ⟨s, rfl, h2, h3⟩ := trod_en hn hy
      refine ⟨s, h2, h3, fun j u hu => ?_⟩
      have hj := (List.getElem?_eq_some_iff.1 hu).1
      exact (hcell j (by rw [hn] at hj; exact hj)).trans hu
    obtain ⟨zs, hz, hP⟩ := choose_list len _ each
    refine ⟨zs, fun x hx => ?_, fun x hx => ?_, hz, by have := hl; have := hm; simp [maxLen] at *; omega, fun hpos => ?_⟩
    · obtain ⟨i, hi⟩ := List.getElem?_of_mem hx
      exact (hP i x hi).1
    · obtain ⟨i, hi⟩ := List.getElem?_of_mem hx
      have := (hP i x hi).2.1
      simpa [maxLen] using this
    · rw [flat_len En_len] at hpos
      obtain ⟨b, off, spot⟩ := a
      have h0 : 0 < zs.length := by omega
      have hc0 := (hP 0 _ (List.getElem?_eq_getElem h0)).2.2 0 _ rfl
      have hspot : spot = none := World.cell?_spot (by simpa [Addr.add] using hc0)
      subst hspot
      refine ⟨b, off, rfl, fun j u hu => ?_⟩
      have hj := (List.getElem?_eq_some_iff.1 hu).1
      rw [flat_len En_len] at hj
      have hk : j / 5 < zs.length := by omega
      have e := flat_at En_len zs (j / 5) (j % 5) _ (List.getElem?_eq_getElem hk) (by omega)
      rw [show j / 5 * 5 + j % 5 = j by omega, hu] at e
      have := (hP (j / 5) _ (List.getElem?_eq_getElem hk)).2.2 (j % 5) u e.symm
      rw [Addr.add_lit, Addr.add_lit, Nat.add_assoc, show j / 5 * 5 + j % 5 = j by omega] at this
      exact this
theorem errs_walk (a : Option Addr) (len cap : Nat) (zs : List En) (ea kd lk : Int) (w1 : (Lit.int .u64 ea).wf = true) (w2 : (Lit.int .u32 kd).wf = true) (w3 : (Lit.int .u32 lk).wf = true) (W : World) (h : EnsIn W a len zs) :
    Calls Try.prog 6 #[.slice a len cap, .int .u64 ea, .int .u32 kd, .int .u32 lk] W fun e w' => e = .returned (.bool true) ∧ Below W.heap.size W w' := by
  obtain ⟨h1, h2, rfl, h4, h5⟩ := h
  have b1 := Go.bounds_u64 w1
  have b2 := Go.bounds_u32 w2
  have b3 := Go.bounds_u32 w3
  obtain ⟨n1, rfl⟩ := Int.eq_ofNat_of_zero_le b1.1
  obtain ⟨n2, rfl⟩ := Int.eq_ofNat_of_zero_le b2.1
  obtain ⟨n3, rfl⟩ := Int.eq_ofNat_of_zero_le b3.1
  exact errs_law a cap zs h4 h2 h1 n1 n2 n3 (by unfold U; omega) (by unfold V32; omega) (by unfold V32; omega) W h5
end Go.Proofs.Ytegbhjmghkbgmaa
