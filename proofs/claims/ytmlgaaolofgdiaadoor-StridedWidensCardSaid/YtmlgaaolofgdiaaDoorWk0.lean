/- What the document says of two sets, as the law asks it every time. -/
import Derived.Test.YtmlgaaolofgdiaaDoorRef
namespace Go.Proofs.YtmlgaaolofgdiaaDoor
open Go.RowKit SM
set_option linter.unusedSimpArgs false
attribute [local go_sem ↓] Go.wp_at_zero Go.wp_at_succ
attribute [local go_sem ↓ high] eql_set neq_set
abbrev lv (s l h : Int) : Value := .agg #[.int .u64 s, .int .u64 l, .int .u64 h]
theorem k_of (w : World) : Calls Tryd.prog 23 #[.int .u64 3, .int .u64 20, .int .u64 4] w fun e w' => e = .returned (lv 4 3 19) ∧ Below w.heap.size w w' :=
  of_any 3 20 4 (by unfold U; decide) w
theorem k_one (x : Nat) (w : World) : Calls Tryd.prog 24 #[.int .u64 (x : Int)] w fun e w' => e = .returned (lv 0 x x) ∧ Below w.heap.size w w' := one_any x w
theorem k_one3 (w : World) : Calls Tryd.prog 24 #[.int .u64 3] w fun e w' => e = .returned (lv 0 3 3) ∧ Below w.heap.size w w' := one_any 3 w
theorem k_one11 (w : World) : Calls Tryd.prog 24 #[.int .u64 11] w fun e w' => e = .returned (lv 0 11 11) ∧ Below w.heap.size w w' := one_any 11 w
theorem k_one1 (w : World) : Calls Tryd.prog 24 #[.int .u64 1] w fun e w' => e = .returned (lv 0 1 1) ∧ Below w.heap.size w w' := one_any 1 w
theorem k_join (w : World) : Calls Tryd.prog 10 #[lv 0 3 3, lv 0 11 11] w fun e w' => e = .returned (lv 8 3 11) ∧ Below w.heap.size w w' :=
  join_any 0 3 3 0 11 11 (by unfold U; decide) (by unfold U; decide) (by unfold U; decide) (by unfold U; decide) (by unfold U; decide) (by unfold U; decide) (.inl ⟨rfl, rfl⟩) (.inl ⟨rfl, rfl⟩) w
theorem rt_a : Rt ⟨4, 3, 19⟩ := .inr (.inr ⟨by decide, by decide, ⟨4, rfl⟩⟩)
theorem rt_b : Rt ⟨8, 3, 11⟩ := .inr (.inr ⟨by decide, by decide, ⟨1, rfl⟩⟩)
theorem k_has11 (w : World) : Calls Tryd.prog 9 #[lv 8 3 11, .int .u64 11] w fun e w' => e = .returned (.bool true) ∧ Below w.heap.size w w' :=
  has_any 8 3 11 11 (by unfold U; decide) rt_b w
theorem k_has7 (w : World) : Calls Tryd.prog 9 #[lv 8 3 11, .int .u64 7] w fun e w' => e = .returned (.bool false) ∧ Below w.heap.size w w' :=
  has_any 8 3 11 7 (by unfold U; decide) rt_b w
theorem k_right (w : World) : Calls Tryd.prog 25 #[lv 2 1 4] w fun e w' => e = .returned (.bool false) ∧ Below w.heap.size w w' :=
  right_sy 2 1 4 (by decide) (by unfold U; decide) (by decide) w
theorem k_none (w : World) : Calls Tryd.prog 26 #[] w fun e w' => e = .returned (lv 0 1 0) ∧ Below w.heap.size w w' := none_any w
theorem k_many (w : World) : Calls Tryd.prog 13 #[lv 0 1 0] w fun e w' => e = .returned (.int .u64 0) ∧ Below w.heap.size w w' :=
  many_any 0 1 0 (by unfold U; decide) (.inr (.inl rfl)) (by decide) w
theorem k_in (w : World) : Calls Tryd.prog 11 #[lv 8 3 11, lv 4 3 19] w fun e w' => e = .returned (.bool true) ∧ Below w.heap.size w w' :=
  in_any 8 3 11 4 3 19 (by unfold U; decide) (by unfold U; decide) rt_b rt_a w
theorem k_add (w : World) (hm : Mk w) : Calls Tryd.prog 18 #[lv 4 3 19, lv 0 1 1, .int .i64 1] w fun e w' => e = .returned (lv 4 4 20) ∧ Below w.heap.size w w' :=
  add_any 4 3 19 0 1 1 1 (by unfold U; decide) (by unfold U; decide) (by unfold U; decide) (by unfold U; decide) rt_a (.inl ⟨rfl, rfl⟩) w hm
def ListW (w : World) (e : Ending) (W' : World) : Prop :=
  ∃ g cap, e = .returned (.slice (some ⟨g, 0, none⟩) 5 cap) ∧ 5 ≤ cap ∧ W'.cell? ⟨g, 4, none⟩ = some (.int .u64 19) ∧ g < W'.heap.size ∧ Below w.heap.size w W'
theorem k_list (w : World) : Calls Tryd.prog 12 #[lv 4 3 19, .int .i64 99] w (ListW w) := by
  refine (list_any 4 3 19 99 (by unfold U; decide) rt_a (by decide) (by decide) (by decide) w).mono ?_
  rintro e W' ⟨v, he, hrow, hb⟩
  have e5 : stN 4 3 19 + 1 = 5 := by decide
  rw [e5] at hrow
  rcases hrow.2 with ⟨_, h⟩ | ⟨g, cap, cur, rfl, _, hg, hcap, _, hs, ht⟩
  · omega
  · refine ⟨g, cap, he, hcap, ?_, (Array.getElem?_eq_some_iff.1 hg).1, hb⟩
    have h4 : cur[4]? = some (.int .u64 19) := by
      have h := congrArg (fun l : List Value => l[4]?) ht
      rw [List.getElem?_take_of_lt (by decide)] at h
      rw [← Array.getElem?_toList, h]; rfl
    unfold World.cell?
    rw [hg]
    exact h4
end Go.Proofs.YtmlgaaolofgdiaaDoor
