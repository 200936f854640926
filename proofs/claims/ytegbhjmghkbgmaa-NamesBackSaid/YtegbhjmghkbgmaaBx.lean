/- NamesBack for whatever comes in. -/
import Derived.Test.YtegbhjmghkbgmaaBw
import Derived.Test.YtegbhjmghkbgmaaOe
namespace Go.Proofs.Ytegbhjmghkbgmaa
open Go.RowKit Go.Shelf
set_option linter.unusedVariables false
set_option linter.unusedSimpArgs false
attribute [local go_sem] Oper.semAt_some
set_option maxRecDepth 100000 in
set_option maxHeartbeats 4000000 in
theorem back_great (A : Int) (a : Option Addr) (p n : Nat) (x : Value) (w : World) (hgr : Calls Try.prog 7 #[.slice a n p] w fun e W' => W' = w ∧ e = .returned (.bool true)) : Calls Try.prog 4 #[.int .i64 A, .slice a n p, x] w fun e W' => e = .returned (.bool true) ∧ Below w.heap.size w W' := by
  have HGR := Lib.hid hgr
  have HWK := Lib.hid wakes_any
  clear hgr
  go_enter Try.func4, Try.ntmps4
  go_wp2_with (first | (go_at_call 7; refine HGR.out.mono ?_) | fail)
  first | (rintro e W1 hw1 rfl; rw [hw1]; clear hw1) | (rintro e W1 ⟨hw1, rfl⟩; rw [hw1]; clear hw1) | (rintro e rfl)
  go_wp2_with (first | (go_at_call 8; refine (HWK.out _).mono ?_) | fail)
  first | (rintro e W1 rfl hb) | (rintro e W1 ⟨rfl, hb⟩)
  go_wp2_with fail
  go_ret
  exact ⟨rfl, hb⟩
set_option maxRecDepth 100000 in
set_option maxHeartbeats 4000000 in
theorem back_out (A : Int) (a : Option Addr) (p n : Nat) (a3 : Option Addr) (n3 c3 : Nat) (hc : A < 0 ∨ 200 < A ∨ 50 < n3) (w : World) (hgr : Calls Try.prog 7 #[.slice a n p] w fun e W' => W' = w ∧ GreatIs e) : Calls Try.prog 4 #[.int .i64 A, .slice a n p, .slice a3 n3 c3] w fun e W' => e = .returned (.bool true) ∧ Below w.heap.size w W' := by
  have HGR := Lib.hid hgr
  have HWK := Lib.hid wakes_any
  have HC := Lib.hid hc
  clear hgr hc
  go_enter Try.func4, Try.ntmps4
  go_wp2_with (first | (go_at_call 7; refine HGR.out.mono ?_) | fail)
  first | (rintro e ⟨g, rfl⟩) | (rintro e W1 ⟨hw1, ⟨g, rfl⟩⟩; rw [hw1]; clear hw1) | (rintro e W1 hw1 ⟨g, rfl⟩; rw [hw1]; clear hw1)
  cases g
  rotate_left
  · skip
    go_wp2_with (first | (go_at_call 8; refine (HWK.out _).mono ?_) | fail)
    first | (rintro e W1 rfl hb) | (rintro e W1 ⟨rfl, hb⟩)
    go_wp2_with fail
    go_ret
    exact ⟨rfl, hb⟩
  by_cases h1 : A < 0
  · have d1 : decide (A < 0) = true := decide_eq_true h1
    go_wp2_with (first | (go_at_call 8; refine (HWK.out _).mono ?_) | fail)
    first | (rintro e W1 rfl hb) | (rintro e W1 ⟨rfl, hb⟩)
    go_wp2_with fail
    go_ret
    exact ⟨rfl, hb⟩
  have d1 : decide (A < 0) = false := decide_eq_false h1
  by_cases h2 : 200 < A
  · have d2 : decide (200 < A) = true := decide_eq_true h2
    go_wp2_with (first | (go_at_call 8; refine (HWK.out _).mono ?_) | fail)
    first | (rintro e W1 rfl hb) | (rintro e W1 ⟨rfl, hb⟩)
    go_wp2_with fail
    go_ret
    exact ⟨rfl, hb⟩
  have d2 : decide (200 < A) = false := decide_eq_false h2
  have h3 : 50 < n3 := by
    rcases HC.out with h | h | h
    · exact absurd h h1
    · exact absurd h h2
    · exact h
  have h3' : (50 : Int) < (n3 : Int) := by omega
  have d3 : decide ((50 : Int) < (n3 : Int)) = true := decide_eq_true h3'
  go_wp2_with (first | (go_at_call 8; refine (HWK.out _).mono ?_) | fail)
  first | (rintro e W1 rfl hb) | (rintro e W1 ⟨rfl, hb⟩)
  go_wp2_with fail
  go_ret
  exact ⟨rfl, hb⟩
theorem back_walk (A : Int) (a : Option Addr) (len cap : Nat) (zs : List En) (a3 : Option Addr) (n3 c3 : Nat) (z3 : List Int) (w0 : (Lit.int .i64 A).wf = true) (W : World) (h : EnsIn W a len zs)
    (hb : (a3 = none ∧ n3 = 0 ∧ c3 = 0 ∧ z3 = []) ∨ ∃ x, a3 = some x ∧ n3 ≤ c3 ∧ c3 ≤ maxLen ∧ z3.length = c3 ∧ (∀ i, i < z3.length → W.cell? (x.add i) = some (.int .u8 (z3.getD i 0))) ∧ ∀ n ∈ z3, (Lit.int .u8 n).wf = true) :
    Calls Try.prog 4 #[.int .i64 A, .slice a len cap, .slice a3 n3 c3] W fun e w' => e = .returned (.bool true) ∧ Below W.heap.size W w' := by
  obtain ⟨h1, h2, rfl, h4, h5⟩ := h
  have hz : ∀ j, (z3.getD j 0).toNat < 256 := fun j => by
    rw [List.getD_eq_getElem?_getD]
    cases hx : z3[j]? with
    | none => show (0 : Int).toNat < 256; decide
    | some v =>
      rcases hb with ⟨_, _, _, rfl⟩ | ⟨x, _, _, _, _, _, hw⟩
      · simp at hx
      · have := Go.bounds_u8 (hw v (List.mem_of_getElem? hx))
        show v.toNat < 256
        omega
  have hBY : BY W a3 n3 c3 (fun j => (z3.getD j 0).toNat) := by
    rcases hb with ⟨e1, e2, e3, _⟩ | ⟨x, e1, e2, _, e4, hc, hw⟩
    · exact .inl ⟨e1, e2, e3⟩
    · refine .inr ⟨x, e1, fun j hj => ?_⟩
      rw [hc j (by omega)]
      have hj2 : j < z3.length := by omega
      have := Go.bounds_u8 (hw (z3.getD j 0) (by rw [List.getD_eq_getElem?_getD, List.getElem?_eq_getElem hj2]; exact List.getElem_mem hj2))
      rw [Int.toNat_of_nonneg this.1]
  have hg := great_any a cap zs h4 h2 W h5
  by_cases hc : zs.length ≤ 60 ∧ ∀ x, x ∈ zs → x.fine
  · have hg2 := hg.mono (R' := fun e W' => W' = W ∧ GreatIs e) (fun e W' h => ⟨h.1, h.2.choose, h.2.choose_spec.1⟩)
    by_cases ho : A < 0 ∨ 200 < A ∨ 50 < n3
    · exact back_out A a cap zs.length a3 n3 c3 ho W hg2
    · obtain ⟨k, rfl⟩ := Int.eq_ofNat_of_zero_le (show 0 ≤ A by omega)
      exact back_small k (by omega) a cap zs hc.1 hc.2 h1 a3 n3 c3 _ hz (by omega) W h5 hBY hg2
  · refine back_great A a cap zs.length _ W (hg.mono fun e W' h => ⟨h.1, ?_⟩)
    obtain ⟨g, h1, h2⟩ := h.2
    cases g
    · exact absurd (h2 rfl) hc
    · exact h1
end Go.Proofs.Ytegbhjmghkbgmaa
