/- NamesTells for whatever comes in. -/
import Derived.Test.YtegbhjmghkbgmaaTl
import Derived.Test.YtegbhjmghkbgmaaOe
namespace Go.Proofs.Ytegbhjmghkbgmaa
open Go.ChangeShapes Go.WideShapes Go.WalkArith Go.RowKit
set_option linter.unusedVariables false
set_option linter.unusedSimpArgs false
attribute [local go_sem] Oper.semAt_some
theorem list2 {α : Type} (l : List α) (h : l.length = 2) : ∃ a b, l = [a, b] := by
  match l, h with
  | [a, b], _ => exact ⟨a, b, rfl⟩
theorem c34 : Try.prog.cellsOf 34 = 2 := by kernel_rfl
theorem c3 : Try.prog.cellsOf 3 = 1 := by kernel_rfl
theorem c54 : Try.prog.cellsOf 54 = 5 := by kernel_rfl
theorem c52 : Try.prog.cellsOf 52 = 1 := by kernel_rfl
theorem trod_pair {H : Type} {enc : TypeId × Value → H} {w : World} {base : Nat} {sp : Nat → Bool} {held : Bool} {fuel : Nat} {cs : List Value} {y : DataW H × List MemPlace} (hl : cs.length = 2)
    (h : DataW.trod enc Try.prog w base sp held fuel 34 cs = some y) : ∃ s : Int × Int, cs = pc s ∧ (-9223372036854775808 ≤ s.1 ∧ s.1 ≤ 9223372036854775807) := by
  obtain ⟨xs, m, _, hx, _, hlen, he⟩ := DataW.trod_array (n := 2) Try.underlying34 h
  obtain ⟨y0, y1, rfl⟩ := list2 xs hlen
  obtain ⟨x0, x1, rfl⟩ := list2 cs hl
  have t0 := he 0 (by decide)
  simp [c3] at t0
  have t1 := he 1 (by decide)
  simp [c3] at t1
  obtain ⟨z0, e0, _, w0⟩ := DataW.trod_int Try.underlying3 t0
  obtain ⟨z1, e1, _, w1⟩ := DataW.trod_int Try.underlying3 t1
  simp at e0 e1
  subst e0 e1
  exact ⟨(z0, z1), rfl, Go.bounds_i64 w0⟩
theorem trod_sc {H : Type} {enc : TypeId × Value → H} {w : World} {base : Nat} {sp : Nat → Bool} {held : Bool} {fuel : Nat} {cs : List Value} {y : DataW H × List MemPlace} (hl : cs.length = 5)
    (h : DataW.trod enc Try.prog w base sp held fuel 54 cs = some y) : ∃ s : Sc, cs = s.cs ∧ s.ok := by
  obtain ⟨xs, m, _, hx, _, hlen, he⟩ := DataW.trod_struct Try.underlying54 h
  obtain ⟨y0, y1, y2, y3, y4, rfl⟩ := list5 xs hlen
  obtain ⟨x0, x1, x2, x3, x4, rfl⟩ := list5 cs hl
  have t0 := he 0 _ rfl
  simp [c52] at t0
  have t1 := he 1 _ rfl
  simp [c28] at t1
  have t2 := he 2 _ rfl
  simp [c28] at t2
  have t3 := he 3 _ rfl
  simp [c52] at t3
  have t4 := he 4 _ rfl
  simp [c28] at t4
  obtain ⟨z0, e0, _, w0⟩ := DataW.trod_int Try.underlying52 t0
  obtain ⟨z1, e1, _, w1⟩ := DataW.trod_int Try.underlying28 t1
  obtain ⟨z2, e2, _, w2⟩ := DataW.trod_int Try.underlying28 t2
  obtain ⟨z3, e3, _, w3⟩ := DataW.trod_int Try.underlying52 t3
  obtain ⟨z4, e4, _, w4⟩ := DataW.trod_int Try.underlying28 t4
  have b0 := Go.bounds_u32 w0
  have b1 := Go.bounds_u64 w1
  have b2 := Go.bounds_u64 w2
  have b3 := Go.bounds_u32 w3
  have b4 := Go.bounds_u64 w4
  obtain ⟨n0, rfl⟩ := Int.eq_ofNat_of_zero_le b0.1
  obtain ⟨n1, rfl⟩ := Int.eq_ofNat_of_zero_le b1.1
  obtain ⟨n2, rfl⟩ := Int.eq_ofNat_of_zero_le b2.1
  obtain ⟨n3, rfl⟩ := Int.eq_ofNat_of_zero_le b3.1
  obtain ⟨n4, rfl⟩ := Int.eq_ofNat_of_zero_le b4.1
  simp at e0 e1 e2 e3 e4
  subst e0 e1 e2 e3 e4
  refine ⟨(n0, n1, n2, n3, n4), rfl, ?_⟩
  unfold Sc.ok V32 U
  dsimp only
  omega
def PairsIn (W : World) (ad : Option Addr) (len : Nat) (zs : List (Int × Int)) : Prop := (∀ x, x ∈ zs → (-9223372036854775808 ≤ x.1 ∧ x.1 ≤ 9223372036854775807)) ∧ zs.length = len ∧ len ≤ 9223372036854775807 ∧ RX W ad (zs.flatMap pc)
theorem open_pairs {H : Type} {enc : TypeId × Value → H} {W : World} {base : Nat} {held : Bool} {ad : Option Addr} {len cap : Nat} {d : DataW H} {p : List MemPlace}
    (h : DataW.Trod enc Try.prog W base (fun _ => true) held 23 (.slice ad len cap) d p) : ∃ zs : List (Int × Int), PairsIn W ad len zs := by
  obtain ⟨fuel, hf⟩ := h
  rcases DataW.trod_slice Try.underlying23 hf with ⟨hcs, _⟩ | ⟨a, l, c, elems, rest, n, _, hcs, _, hb, hl, hm, hlen, hel, _, _⟩
  · simp [Value.cells] at hcs
    obtain ⟨rfl, rfl, rfl⟩ := hcs
    exact ⟨[], (fun x h => by simp at h), rfl, by decide, fun h => by simp at h⟩
  · simp [Value.cells] at hcs
    obtain ⟨rfl, rfl, rfl⟩ := hcs
    rw [c34] at hel
    have each : ∀ i, i < len → ∃ s : Int × Int, (-9223372036854775808 ≤ s.1 ∧ s.1 ≤ 9223372036854775807) ∧ ∀ j u, (pc s)[j]? = some u → W.cell? ((a.add (i * 2)).add j) = some u := by
      intro i hi
      have h1 := hel i (by omega)
      rw [List.getElem?_eq_getElem (by omega), Option.bind_eq_some_iff] at h1
      obtain ⟨cs, hc, hy⟩ := h1
      obtain ⟨_, hn, hcell⟩ := World.cells?_some hc
      obtain ⟨s, rfl, h2⟩ := trod_pair hn hy
      refine ⟨s, h2, fun j u hu => ?_⟩
      have hj := (List.getElem?_eq_some_iff.1 hu).1
      exact (hcell j (by rw [hn] at hj; exact hj)).trans hu
    obtain ⟨zs, hz, hP⟩ := choose_list len _ each
    refine ⟨zs, fun x hx => ?_, hz, by have := hl; have := hm; simp [maxLen] at *; omega, fun hpos => ?_⟩
    · obtain ⟨i, hi⟩ := List.getElem?_of_mem hx
      exact (hP i x hi).1
    · rw [flat_len pc_len] at hpos
      obtain ⟨b, off, spot⟩ := a
      have h0 : 0 < zs.length := by omega
      have hc0 := (hP 0 _ (List.getElem?_eq_getElem h0)).2 0 _ rfl
      have hspot : spot = none := World.cell?_spot (by simpa [Addr.add] using hc0)
      subst hspot
      refine ⟨b, off, rfl, fun j u hu => ?_⟩
      have hj := (List.getElem?_eq_some_iff.1 hu).1
      rw [flat_len pc_len] at hj
      have hk : j / 2 < zs.length := by omega
      have e := flat_at pc_len zs (j / 2) (j % 2) _ (List.getElem?_eq_getElem hk) (by omega)
      rw [show j / 2 * 2 + j % 2 = j by omega, hu] at e
      have := (hP (j / 2) _ (List.getElem?_eq_getElem hk)).2 (j % 2) u e.symm
      rw [Addr.add_lit, Addr.add_lit, Nat.add_assoc, show j / 2 * 2 + j % 2 = j by omega] at this
      exact this
def SecsIn (W : World) (ad : Option Addr) (len cap : Nat) (zs : List Sc) : Prop := (∀ x, x ∈ zs → x.ok) ∧ zs.length = len ∧ SrcC W ad len cap zs
theorem open_secs {H : Type} {enc : TypeId × Value → H} {W : World} {base : Nat} {held : Bool} {ad : Option Addr} {len cap : Nat} {d : DataW H} {p : List MemPlace}
    (h : DataW.Trod enc Try.prog W base (fun _ => true) held 24 (.slice ad len cap) d p) : ∃ zs : List Sc, SecsIn W ad len cap zs := by
  obtain ⟨fuel, hf⟩ := h
  rcases DataW.trod_slice Try.underlying24 hf with ⟨hcs, _⟩ | ⟨a, l, c, elems, rest, n, _, hcs, _, hb, hl, hm, hlen, hel, _, _⟩
  · simp [Value.cells] at hcs
    obtain ⟨rfl, rfl, rfl⟩ := hcs
    exact ⟨[], (fun x h => by simp at h), rfl, .inl ⟨rfl, rfl, rfl, rfl⟩⟩
  · simp [Value.cells] at hcs
    obtain ⟨rfl, rfl, rfl⟩ := hcs
    rw [c54] at hel
    have each : ∀ i, i < len → ∃ s : Sc, s.ok ∧ ∀ j u, s.cs[j]? = some u → W.cell? ((a.add (i * 5)).add j) = some u := by
      intro i hi
      have h1 := hel i (by omega)
      rw [List.getElem?_eq_getElem (by omega), Option.bind_eq_some_iff] at h1
      obtain ⟨cs, hc, hy⟩ := h1
      obtain ⟨_, hn, hcell⟩ := World.cells?_some hc
      obtain ⟨s, rfl, h2⟩ := trod_sc hn hy
      refine ⟨s, h2, fun j u hu => ?_⟩
      have hj := (List.getElem?_eq_some_iff.1 hu).1
      exact (hcell j (by rw [hn] at hj; exact hj)).trans hu
    obtain ⟨zs, hz, hP⟩ := choose_list len _ each
    refine ⟨zs, fun x hx => ?_, hz, .inr ⟨a, rfl, hz, fun j u hu => ?_⟩⟩
    · obtain ⟨i, hi⟩ := List.getElem?_of_mem hx
      exact (hP i x hi).1
    · have hj := (List.getElem?_eq_some_iff.1 hu).1
      rw [cellsC_len] at hj
      have hk : j / 5 < zs.length := by omega
      have e := flat_at Sc_len zs (j / 5) (j % 5) _ (List.getElem?_eq_getElem hk) (by omega)
      rw [show j / 5 * 5 + j % 5 = j by omega] at e
      have e2 : (Sc.cs (zs[j / 5]'hk))[j % 5]? = some u := e.symm.trans hu
      have := (hP (j / 5) _ (List.getElem?_eq_getElem hk)).2 (j % 5) u e2
      obtain ⟨b, off, spot⟩ := a
      have hc0 := (hP 0 _ (List.getElem?_eq_getElem (show 0 < zs.length by omega))).2 0 _ rfl
      have hspot : spot = none := World.cell?_spot (by simpa [Addr.add] using hc0)
      subst hspot
      rw [Addr.add_lit, Addr.add_lit, Nat.add_assoc, show j / 5 * 5 + j % 5 = j by omega] at this
      rw [Addr.add_lit]
      exact this
set_option maxRecDepth 100000 in
set_option maxHeartbeats 4000000 in
theorem tells_great (A : Int) (a : Option Addr) (p n : Nat) (x y : Value) (nm : ByteArray) (w : World) (hgr : Calls Try.prog 7 #[.slice a n p] w fun e W' => W' = w ∧ e = .returned (.bool true)) : Calls Try.prog 3 #[.int .i64 A, .slice a n p, x, y, .string nm] w fun e W' => e = .returned (.bool true) ∧ Below w.heap.size w W' := by
  have HGR := Lib.hid hgr
  have HWK := Lib.hid wakes_any
  clear hgr
  go_enter Try.func3, Try.ntmps3
  go_wp2_with (first | (go_at_call 7; refine HGR.out.mono ?_) | fail)
  first | (rintro e W1 hw1 rfl; rw [hw1]; clear hw1) | (rintro e W1 ⟨hw1, rfl⟩; rw [hw1]; clear hw1) | (rintro e rfl)
  go_wp2_with (first | (go_at_call 8; refine (HWK.out _).mono ?_) | fail)
  first | (rintro e W1 rfl hb) | (rintro e W1 ⟨rfl, hb⟩)
  go_wp2_with fail
  go_ret
  exact ⟨rfl, hb⟩
set_option maxRecDepth 100000 in
set_option maxHeartbeats 4000000 in
theorem tells_out (A : Int) (a : Option Addr) (p n : Nat) (a2 : Option Addr) (n2 c2 : Nat) (a3 : Option Addr) (n3 c3 : Nat) (nm : ByteArray) (hc : A < 0 ∨ 200 < A ∨ 20 < n2 ∨ 100 < nm.size ∨ 40 < n3) (w : World) (hgr : Calls Try.prog 7 #[.slice a n p] w fun e W' => W' = w ∧ ∃ g : Bool, e = .returned (.bool g)) : Calls Try.prog 3 #[.int .i64 A, .slice a n p, .slice a2 n2 c2, .slice a3 n3 c3, .string nm] w fun e W' => e = .returned (.bool true) ∧ Below w.heap.size w W' := by
  have HGR := Lib.hid hgr
  have HWK := Lib.hid wakes_any
  have HC := Lib.hid hc
  clear hgr hc
  go_enter Try.func3, Try.ntmps3
  go_wp2_with (first | (go_at_call 7; refine HGR.out.mono ?_) | fail)
  first | (rintro e ⟨g, rfl⟩) | (rintro e W1 ⟨hw1, ⟨g, rfl⟩⟩; rw [hw1]; clear hw1) | (rintro e W1 hw1 ⟨g, rfl⟩; rw [hw1]; clear hw1)
  cases g
  rotate_left
  · skip
    go_wp2_with (first | (go_at_call 8; refine (HWK.out _).mono ?_) | fail)
    first | (rintro e W1 rfl hb) | (rintro e W1 ⟨rfl, hb⟩)
    go_wp2_with fail
    go_ret
    exact ⟨rfl, hb⟩
  by_cases h1 : A < 0
  · have d0 : decide (A < 0) = true := decide_eq_true (by omega)
    have d0b : A < 0 := by omega
    go_wp2_with (first | (go_at_call 8; refine (HWK.out _).mono ?_) | fail)
    first | (rintro e W1 rfl hb) | (rintro e W1 ⟨rfl, hb⟩)
    go_wp2_with fail
    go_ret
    exact ⟨rfl, hb⟩
  have d0 : decide (A < 0) = false := decide_eq_false (by omega)
  have d0b : ¬ A < 0 := by omega
  by_cases h2 : 200 < A
  · have d1 : decide (200 < A) = true := decide_eq_true (by omega)
    have d1b : 200 < A := by omega
    go_wp2_with (first | (go_at_call 8; refine (HWK.out _).mono ?_) | fail)
    first | (rintro e W1 rfl hb) | (rintro e W1 ⟨rfl, hb⟩)
    go_wp2_with fail
    go_ret
    exact ⟨rfl, hb⟩
  have d1 : decide (200 < A) = false := decide_eq_false (by omega)
  have d1b : ¬ 200 < A := by omega
  by_cases h3 : 20 < n2
  · have d2 : decide ((20 : Int) < (n2 : Int)) = true := decide_eq_true (by omega)
    have d2b : (20 : Int) < (n2 : Int) := by omega
    go_wp2_with (first | (go_at_call 8; refine (HWK.out _).mono ?_) | fail)
    first | (rintro e W1 rfl hb) | (rintro e W1 ⟨rfl, hb⟩)
    go_wp2_with fail
    go_ret
    exact ⟨rfl, hb⟩
  have d2 : decide ((20 : Int) < (n2 : Int)) = false := decide_eq_false (by omega)
  have d2b : ¬ (20 : Int) < (n2 : Int) := by omega
  by_cases h4 : 100 < nm.size
  · have d3 : decide ((100 : Int) < (nm.size : Int)) = true := decide_eq_true (by omega)
    have d3b : (100 : Int) < (nm.size : Int) := by omega
    go_wp2_with (first | (go_at_call 8; refine (HWK.out _).mono ?_) | fail)
    first | (rintro e W1 rfl hb) | (rintro e W1 ⟨rfl, hb⟩)
    go_wp2_with fail
    go_ret
    exact ⟨rfl, hb⟩
  have d3 : decide ((100 : Int) < (nm.size : Int)) = false := decide_eq_false (by omega)
  have d3b : ¬ (100 : Int) < (nm.size : Int) := by omega
  have h5 : (40 : Int) < (n3 : Int) := by
    have := HC.out
    omega
  have d5 : decide ((40 : Int) < (n3 : Int)) = true := decide_eq_true h5
  go_wp2_with (first | (go_at_call 8; refine (HWK.out _).mono ?_) | fail)
  first | (rintro e W1 rfl hb) | (rintro e W1 ⟨rfl, hb⟩)
  go_wp2_with fail
  go_ret
  exact ⟨rfl, hb⟩
theorem tells_walk (A : Int) (a : Option Addr) (len cap : Nat) (zs : List En) (a2 : Option Addr) (len2 cap2 : Nat) (z2 : List (Int × Int)) (a3 : Option Addr) (len3 cap3 : Nat) (z3 : List Sc) (nm : ByteArray) (w0 : (Lit.int .i64 A).wf = true) (_w4 : nm.size ≤ maxLen) (W : World) (h : EnsIn W a len zs) (h2 : PairsIn W a2 len2 z2) (h3 : SecsIn W a3 len3 cap3 z3) :
    Calls Try.prog 3 #[.int .i64 A, .slice a len cap, .slice a2 len2 cap2, .slice a3 len3 cap3, .string nm] W fun e w' => e = .returned (.bool true) ∧ Below W.heap.size W w' := by
  obtain ⟨k1, k2, rfl, k4, k5⟩ := h
  obtain ⟨p1, rfl, p3, p4⟩ := h2
  obtain ⟨s1, rfl, s3⟩ := h3
  have hg := great_any a cap zs k4 k2 W k5
  by_cases hc : zs.length ≤ 60 ∧ ∀ x, x ∈ zs → x.fine
  · have hg2 := hg.mono (R' := fun e W' => W' = W ∧ ∃ g : Bool, e = .returned (.bool g)) (fun e W' h => ⟨h.1, h.2.choose, h.2.choose_spec.1⟩)
    by_cases ho : A < 0 ∨ 200 < A ∨ 20 < z2.length ∨ 100 < nm.size ∨ 40 < z3.length
    · exact tells_out A a cap zs.length a2 _ cap2 a3 _ cap3 nm ho W hg2
    · obtain ⟨k, rfl⟩ := Int.eq_ofNat_of_zero_le (show 0 ≤ A by omega)
      exact tells_small k (by omega) a cap zs hc.1 hc.2 k1 a2 cap2 z2 (by omega) p1 a3 cap3 z3 (by omega) s1 nm (by omega) W k5 p4 s3 hg2
  · refine tells_great A a cap zs.length _ _ nm W (hg.mono fun e W' h => ⟨h.1, ?_⟩)
    obtain ⟨g, h1, h2⟩ := h.2
    cases g
    · exact absurd (h2 rfl) hc
    · exact h1
end Go.Proofs.Ytegbhjmghkbgmaa
