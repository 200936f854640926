/- strided.List of the set of nothing. -/
import Derived.Test.YtmlgaaolofgdiaaDoorList2
import Derived.RangeFuncNested
import Derived.RangeFuncBound
import Derived.RangeFuncCalls
import Derived.RangeFuncLeaves
import Derived.RangeFuncBox
import Derived.Shelf.Abstract
import Derived.Shelf.RegionOpen
import Derived.OwnWalkIn
import Derived.TacticsInMore
import Derived.LoopNIn
import Derived.LoopIn
import Derived.Maps.AppendAt
import Derived.Maps.OwnIn
namespace Go.Proofs.YtmlgaaolofgdiaaDoor
open Go.RowKit Go.Shelf SM
set_option linter.unusedSimpArgs false
set_option linter.unusedVariables false
attribute [local go_sem] Oper.semAt_some
attribute [local go_sem ↓ high] eql_set neq_set run_mx run_mn
set_option maxRecDepth 100000 in
set_option maxHeartbeats 2000000 in
theorem values0_in (F : Fence) (HF : Hid (F = Fence.wide)) (n l p : Nat) (J Jx : List Nat → World → Prop) (W : World) (hJ : AbidesFrom W.heap.size J)
    (hY : ∀ pre x W1, J pre W1 → pre.length < 0 → YieldAt F (n - 1) Tryd.prog l #[.int .u64 (x : Nat)] W1 fun e W' =>
      (e = .returned (.bool true) ∧ J (pre ++ [x]) W' ∧ Kp24 W1 W') ∨ (e = .returned (.bool false) ∧ Jx (pre ++ [x]) W'))
    (c0 : W.cell? ⟨p, 0, none⟩ = some (.int .u64 0)) (c1 : W.cell? ⟨p, 1, none⟩ = some (.int .u64 1)) (c2 : W.cell? ⟨p, 2, none⟩ = some (.int .u64 0)) (h0 : J [] W) :
    CallsIn F n Tryd.prog 42 #[.func (.yield l) #[] #[], .pointer (some ⟨p, 0, none⟩)] W fun e W' => (∃ v, e = .returned v) ∧
      ((∃ ys, ys = ([] : List Nat) ∧ J ys W') ∨ (∃ pre, False ∧ Jx pre W')) := by
  have hro : F.round = none := by rw [HF.out]; rfl
  have h42 : F.fn 42 := by rw [HF.out]; trivial
  have h27 : F.fn 27 := by rw [HF.out]; trivial
  have h26 : F.fn 26 := by rw [HF.out]; trivial
  have hdp : F.depth = none := by rw [HF.out]; rfl
  have q : eq3 0 1 0 0 1 0 = true := by decide
  refine callsIn_of_wp Tryd.func42 rfl h42 ?_ hro
  simp only [Tryd.ntmps42, List.size_toArray, List.length_cons, List.length_nil, Nat.reduceAdd, Nat.reduceSub, Array.replicate_succ, Array.replicate_zero, List.push_toArray, List.append_toArray, List.nil_append, List.cons_append]
  gi_wp2_with (gi_at_call 27; refine (inW HF (held_rt 0 1 0 (by unfold U; decide) (.inr (.inl rfl)) _)).mono ?_; rintro e W1 ⟨rfl, hb1⟩)
  have hJ1 : J [] W1 := hJ _ _ _ none h0 (grown_of_below hb1) (fun _ e => by cases e)
  obtain ⟨a0, a1, a2, a3, a4, a5, a6⟩ := Slot3.drew (Slot3.new W1 (.int .u64 0) (.int .u64 1) (.int .u64 0) 24)
  refine wpIn_region_any (by kernel_rfl) ?_
  change wpAnyIn _ _ _ _ _ _ _ _ _ (World.drew _)
  refine wpAnyIn_ready (rs := [0, 1]) (by kernel_rfl) (by simp) ?_
  refine AllReadyIn.cons rfl (fun K hK => ?_) (AllReadyIn.cons rfl (fun K hK => ?_) AllReadyIn.nil)
  focus
    go_simp
    refine hK _ _ ?_
    clear hK K
    try simp only [Act.put, List.setIfInBounds_toArray, List.set_cons_zero, List.set_cons_succ]
    refine wpAnyIn_ready (rs := [1]) (by kernel_rfl) (by simp) ?_
    refine AllReadyIn.cons rfl (fun K hK => ?_) AllReadyIn.nil
    go_simp
    gi_at_call 26
    refine (inW HF (none_any _)).mono ?_
    rintro e W2 ⟨rfl, hb2⟩
    refine hK _ _ ?_
    clear hK K
    try simp only [Act.put, List.setIfInBounds_toArray, List.set_cons_zero, List.set_cons_succ]
  rotate_left
  focus
    go_simp
    gi_at_call 26
    refine (inW HF (none_any _)).mono ?_
    rintro e W2 ⟨rfl, hb2⟩
    obtain ⟨d0, d1, d2, -, -, -, -⟩ := Slot3.keep ⟨a0, a1, a2, a3, a4, a5, a6⟩ hb2
    refine hK _ _ ?_
    clear hK K
    try simp only [Act.put, List.setIfInBounds_toArray, List.set_cons_zero, List.set_cons_succ]
    refine wpAnyIn_ready (rs := [0]) (by kernel_rfl) (by simp) ?_
    refine AllReadyIn.cons rfl (fun K hK => ?_) AllReadyIn.nil
    go_simp
    refine hK _ _ ?_
    clear hK K d0 d1 d2
    try simp only [Act.put, List.setIfInBounds_toArray, List.set_cons_zero, List.set_cons_succ]
  all_goals
    have hbW : Below W1.heap.size W1 W2 := (((Below.refl _ _).alloc (Nat.le_refl _) _).drew).trans (hb2.mono (by simp))
    have hJ2 : J [] W2 := hJ _ _ _ none hJ1 (grown_of_below hbW) (fun _ e => by cases e)
    have hL2 : W2.heap[W1.heap.size]? = some (Obj.cells #[.int .u64 0, .int .u64 1, .int .u64 0] 24 (0, 0)) :=
      (hb2.block _ (by simp)).trans (World.alloc_heap_new W1 _)
    obtain ⟨d0, d1, d2, d3, d4, d5, d6⟩ := Slot3.keep ⟨a0, a1, a2, a3, a4, a5, a6⟩ hb2
    have HL2 := Lib.hid hL2
    clear hL2 hb2 a0 a1 a2 a3 a4 a5 a6 hb1
    refine wpAnyIn_take (i := 2) (v := ?_) hro rfl (by kernel_rfl) (by kernel_rfl) (by kernel_rfl) (fun _ _ _ h => h) ⟨Or.inl ⟨by rfl, ?_⟩, fun _ => rfl⟩ ?_
    rotate_left
    · intro w
      go_simp
      try with_reducible rfl
    try simp only [Act.put, List.setIfInBounds_toArray, List.set_cons_zero, List.set_cons_succ]
    refine wpAnyIn_take (i := 3) (v := ?_) hro rfl (by kernel_rfl) (by kernel_rfl) (by kernel_rfl) (fun _ _ _ h => h) ⟨Or.inl ⟨by rfl, ?_⟩, fun _ => rfl⟩ ?_
    rotate_left
    · intro w
      go_simp
      try with_reducible rfl
    try simp only [Act.put, List.setIfInBounds_toArray, List.set_cons_zero, List.set_cons_succ]
    refine wpAnyIn_take (i := 4) (v := undef) hro rfl (by kernel_rfl) (by kernel_rfl) (by kernel_rfl) (fun _ _ _ h => h) ⟨Or.inr ⟨by kernel_rfl, rfl⟩, fun _ => rfl⟩ ?_
    try simp only [Act.put, List.setIfInBounds_toArray, List.set_cons_zero, List.set_cons_succ]
    refine wpAnyIn_take (i := 5) (v := undef) hro rfl (by kernel_rfl) (by kernel_rfl) (by kernel_rfl) (fun _ _ _ h => h) ⟨Or.inr ⟨by kernel_rfl, rfl⟩, fun _ => rfl⟩ ?_
    try simp only [Act.put, List.setIfInBounds_toArray, List.set_cons_zero, List.set_cons_succ]
    refine wpAnyIn_take (i := 6) (v := undef) hro rfl (by kernel_rfl) (by kernel_rfl) (by kernel_rfl) (fun _ _ _ h => h) ⟨Or.inr ⟨by kernel_rfl, rfl⟩, fun _ => rfl⟩ ?_
    try simp only [Act.put, List.setIfInBounds_toArray, List.set_cons_zero, List.set_cons_succ]
    refine wpAnyIn_take (i := 7) (v := undef) hro rfl (by kernel_rfl) (by kernel_rfl) (by kernel_rfl) (fun _ _ _ h => h) ⟨Or.inr ⟨by kernel_rfl, rfl⟩, fun _ => rfl⟩ ?_
    try simp only [Act.put, List.setIfInBounds_toArray, List.set_cons_zero, List.set_cons_succ]
    refine wpAnyIn_take (i := 8) (v := undef) hro rfl (by kernel_rfl) (by kernel_rfl) (by kernel_rfl) (fun _ _ _ h => h) ⟨Or.inr ⟨by kernel_rfl, rfl⟩, fun _ => rfl⟩ ?_
    try simp only [Act.put, List.setIfInBounds_toArray, List.set_cons_zero, List.set_cons_succ]
    refine wpAnyIn_take (i := 9) (v := ?_) hro rfl (by kernel_rfl) (by kernel_rfl) (by kernel_rfl) (fun _ _ _ h => h) ⟨Or.inl ⟨by rfl, ?_⟩, fun _ => rfl⟩ ?_
    rotate_left
    · intro w
      go_simp
      try with_reducible rfl
    try simp only [Act.put, List.setIfInBounds_toArray, List.set_cons_zero, List.set_cons_succ]
    refine wpAnyIn_done (by kernel_rfl) ?_ _
    gi_wp2
    refine bodyPost_ret (results_none rfl _ _ _) rfl ?_
    first | exact ⟨⟨_, rfl⟩, hJ2⟩ | exact ⟨⟨_, rfl⟩, Or.inl ⟨_, rfl, hJ2⟩⟩ | exact hJ2
theorem values0_stops (F : Fence) (HF : Hid (F = Fence.wide)) (n p : Nat) (w : World) (hp : p < w.heap.size)
    (c0 : w.cell? ⟨p, 0, none⟩ = some (.int .u64 0)) (c1 : w.cell? ⟨p, 1, none⟩ = some (.int .u64 1)) (c2 : w.cell? ⟨p, 2, none⟩ = some (.int .u64 0)) :
    SeqStopsK F n Tryd.prog 42 #[.pointer (some ⟨p, 0, none⟩)] (fun x : Nat => #[Value.int .u64 (x : Int)]) Kp24 (fun ys => ys = ([] : List Nat))
      (fun _ => False) 0 w := fun l J Jx W hW hJ _ hY h0 =>
  values0_in F HF n l p J Jx W hJ hY ((hW.cell (p := ⟨p, 0, none⟩) hp).trans c0) ((hW.cell (p := ⟨p, 1, none⟩) hp).trans c1) ((hW.cell (p := ⟨p, 2, none⟩) hp).trans c2) h0
set_option maxRecDepth 100000 in
set_option maxHeartbeats 2000000 in
theorem list0_in (F : Fence) (HF : Hid (F = Fence.wide)) (n : Nat) (hn3 : 3 ≤ n) (most : Int) (w : World) :
    CallsIn F n Tryd.prog 12 #[sv 0 1 0, .int .i64 most] w fun e W' => ∃ v, e = .returned v ∧ W'.ownsRow w.heap.size 22 1 v 0 [] ∧ Below w.heap.size w W' := by
  have h1 : 1 ≤ n := by omega
  have hro : F.round = none := by rw [HF.out]; rfl
  have h12 : F.fn 12 := by rw [HF.out]; trivial
  have h30 : F.fn 30 := by rw [HF.out]; trivial
  have h42 : F.fn 42 := by rw [HF.out]; trivial
  have hdp : F.depth = none := by rw [HF.out]; rfl
  obtain ⟨i0, hi0, hz0, hz1, hz2⟩ := info_parts info22
  refine callsIn_of_wp_marks Tryd.func12 rfl h12 ?_ hro
  simp only [Tryd.ntmps12, List.size_toArray, List.length_cons, List.length_nil, Nat.reduceAdd, Nat.reduceSub, Array.replicate_succ, Array.replicate_zero, List.push_toArray, List.append_toArray, List.nil_append, List.cons_append]
  refine wpIn_of_wp HF ?_
  go_wp2
  go_step3
  go_wp2
  go_step3
  go_wp2_with fail
  go_at_call 30
  refine (values_calls _ _ _ _).mono ?_
  rintro e w' ⟨rfl, rfl⟩
  go_wp2
  have bM := (Boxed.new (w.alloc (sb 0 1 0)) 3 (.int .i64 most)).alloc (Obj.cells #[Value.slice none 0 0] 31)
  have bO := Boxed.new ((w.alloc (sb 0 1 0)).alloc (Obj.cells #[Value.int IntKind.i64 most] 3)) 31 (.slice none 0 0)
  have kS := Slot3.new (((w.alloc (sb 0 1 0)).alloc (Obj.cells #[Value.int IntKind.i64 most] 3)).alloc (Obj.cells #[Value.slice none 0 0] 31)) (.int .u64 0) (.int .u64 1) (.int .u64 0) 24
  simp only [World.size_alloc] at bM bO kS
  obtain ⟨k0, k1, k2, -, -, -, -⟩ := kS
  have hB0 : Below w.heap.size w ((((w.alloc (sb 0 1 0)).alloc (Obj.cells #[Value.int IntKind.i64 most] 3)).alloc (Obj.cells #[Value.slice none 0 0] 31)).alloc (sb 0 1 0)) := ((((Below.refl _ _).alloc (Nat.le_refl _) _).alloc (by simp) _).alloc (by simp; omega) _).alloc (by simp; omega) _
  refine wp_of_wpIn HF n ?_
  refine wpIn_rangeFunc_ownG hro h1 (gf := 42) (lb := #[.pointer (some ⟨w.heap.size + 1 + 1 + 1, 0, none⟩)]) rfl h42 (enters_of Tryd.func42 (by kernel_rfl) rfl)
    (values0_stops F HF (n - 1) (w.heap.size + 1 + 1 + 1) _ (by simp) k0 k1 k2) kp24_t kp24_b (Below.refl _ _) (fun _ => rfl)
    (fun pre W => (((∃ v, Boxed W (w.heap.size + 1 + 1) 31 v ∧ W.ownsRow w.heap.size 22 1 v pre.length (pre.map (fun x : Nat => Value.int .u64 (x : Int))) ∧ True) ∧ Boxed W (w.heap.size + 1) 3 (.int .i64 most)) ∧ Below w.heap.size w W))
    (fun _ _ _ => False)
    (OwnFrom.and (OwnFrom.and (Own.from (holdsRow_own w.heap.size (w.heap.size + 1 + 1) 31 22 1 (fun pre : List Nat => pre.length) (fun pre => pre.map (fun x : Nat => Value.int .u64 (x : Int))) (fun _ _ => True)) _) (Own.from (boxed_own _ _ _) _)) (ownFrom_below (Nat.le_refl _) (by simp; omega)))
    (fun _ _ _ _ _ hs _ _ => hs)
    ⟨⟨⟨_, bO.alloc _, World.ownsRow_nil _ _ _ _, trivial⟩, bM.alloc _⟩, hB0⟩
    (fun x => { tmps := #[sv 0 1 0, .int .i64 most, .pointer (some ⟨w.heap.size, 0, none⟩), .pointer (some ⟨w.heap.size + 1, 0, none⟩), .slice none 0 0, .pointer (some ⟨w.heap.size + 1 + 1, 0, none⟩), .int .u64 (x : Int), sv 0 1 0, .func (.func 42) #[] #[.pointer (some ⟨w.heap.size + 1 + 1 + 1, 0, none⟩)], .int .u64 (x : Int), undef, undef, undef, undef, undef, undef, undef, undef, undef], defers := [] }) ?assign ?body ?done ?stop
  case assign =>
    intro l x W K hK
    gi_wp2
    exact hK
  case body =>
    rintro l pre x W ⟨⟨⟨v, hv, hrow, -⟩, hbm⟩, hB⟩ hlt
    omega
  case done =>
    rintro D ys W hD rfl ⟨⟨⟨v, hv, hrow, -⟩, hbm⟩, hB⟩ hK
    have hc := hv.cell
    have HR := Lib.hid hrow
    clear hrow
    go_wp2
    refine ⟨by simp, .inl ⟨_, _, rfl, run_takeDeferred hK, ?_⟩⟩
    have hR2 := ownsRow_putObj HR.out (Obj.deferred none) hK rfl
    exact ⟨_, results_tmp rfl _ _ _, v, rfl, hR2, hB.trans (belowK_b (w := w) (Nat.le_refl _) W D _ _ (by simp at hD; omega) hK rfl rfl)⟩
  case stop =>
    rintro D c pre W _ _ h _
    exact h.elim
theorem list0_any (most : Int) (w : World) :
    Calls Tryd.prog 12 #[sv 0 1 0, .int .i64 most] w fun e W' => (∃ a cap, e = .returned (.slice a 0 cap)) ∧ Below w.heap.size w W' :=
  (callsIn_wide.1 (list0_in Fence.wide (Lib.hid rfl) 5 (by decide) most w)).mono fun e W' ⟨v, he, hr, hb⟩ => by
    obtain ⟨a, cap, rfl⟩ := row_form hr
    exact ⟨⟨_, _, he⟩, hb⟩
end Go.Proofs.YtmlgaaolofgdiaaDoor
