/- strided.List: a set's values, as far as there are no more than are asked for. -/
import Derived.Test.YtmlgaaolofgdiaaDoorList
import Derived.ProofKit
namespace Go.Proofs.YtmlgaaolofgdiaaDoor
open Go.RowKit Go.Shelf SM
set_option linter.unusedSimpArgs false
attribute [local go_sem] Oper.semAt_some
theorem info22 : (Tryd.prog.info? 22).map (fun i => (i.zero, i.size, i.bytes)) = some (some (.int .u64 0), 1, 8) := by kernel_rfl
theorem wpIn_of_wp {F : Fence} (HF : Hid (F = Fence.wide)) {n : Nat} {P : Program} {c : Code} {Q : Exit → Act → World → Prop} {a : Act} {w : World} (h : c.wp P Q a w) : c.wpIn F n P Q a w := by
  rw [HF.out]; exact wpIn_wide.2 h
theorem wp_of_wpIn {F : Fence} (HF : Hid (F = Fence.wide)) (n : Nat) {P : Program} {c : Code} {Q : Exit → Act → World → Prop} {a : Act} {w : World} (h : c.wpIn F n P Q a w) : c.wp P Q a w := by
  rw [HF.out] at h; exact wpIn_wide.1 h
set_option maxHeartbeats 1000000 in
theorem values_calls (s l h : Nat) (w : World) :
    Calls Tryd.prog 30 #[sv s l h] w fun e w' => e = .returned (.func (.func 42) #[] #[.pointer (some ⟨w.heap.size, 0, none⟩)]) ∧ w' = w.alloc (sb s l h) := by
  go_enter Tryd.func30, Tryd.ntmps30
  go_wp2
  go_ret
  exact ⟨rfl, rfl⟩
theorem values_stops (F : Fence) (HF : Hid (F = Fence.wide)) (n p : Nat) (s lo hi : Nat) (uh : U hi) (ha : Rt ⟨s, lo, hi⟩) (hn : (⟨s, lo, hi⟩ : St) ≠ noneS) (w : World) (hp : p < w.heap.size)
    (c0 : w.cell? ⟨p, 0, none⟩ = some (.int .u64 (s : Int))) (c1 : w.cell? ⟨p, 1, none⟩ = some (.int .u64 (lo : Int))) (c2 : w.cell? ⟨p, 2, none⟩ = some (.int .u64 (hi : Int))) :
    SeqStopsK F n Tryd.prog 42 #[.pointer (some ⟨p, 0, none⟩)] (fun x : Nat => #[Value.int .u64 (x : Int)]) Kp24 (fun ys => ys = upto (fun k => lo + k * s) (stN s lo hi + 1))
      (fun pre => ∃ k, k ≤ stN s lo hi + 1 ∧ pre = upto (fun k => lo + k * s) k) (stN s lo hi + 1) w := fun l J Jx W hW hJ _ hY h0 =>
  values1_in F HF n l p s lo hi uh ha hn J Jx W hJ hY ((hW.cell (p := ⟨p, 0, none⟩) hp).trans c0) ((hW.cell (p := ⟨p, 1, none⟩) hp).trans c1) ((hW.cell (p := ⟨p, 2, none⟩) hp).trans c2) h0
theorem row_form {w : World} {base e size n : Nat} {v : Value} {xs : List Value} (h : w.ownsRow base e size v n xs) : ∃ a cap, v = .slice a n cap := by
  rcases h.2 with ⟨rfl, rfl⟩ | ⟨g, cap, cur, rfl, _⟩
  · exact ⟨_, _, rfl⟩
  · exact ⟨_, _, rfl⟩
theorem boxed_own {β : Type} (B : Nat) (t : TypeId) (v : Value) : Own (fun (_ : β) W => Boxed W B t v) := by
  rintro s X Y row hv hg hrow
  refine Boxed.kept hv hg (fun e' => ?_)
  obtain ⟨o, ho, hc⟩ := hrow B e'.symm
  rw [show X.heap[B]? = _ from hv] at ho; cases ho; cases hc
/-- A set's block is kept by an append to a row of words and the store of its slice. -/
theorem kp24_append {W w1 : World} {n₀ B k : Nat} {v v' : Value} {xs : List Value} {tmp : Obj} (hv : Boxed W B 31 v) (hrow : W.ownsRow n₀ 22 1 v k xs)
    (hgrow : (W.alloc tmp).grownBy w1 v.ownBlock) : Kp24 W (w1.setCell ⟨B, 0, none⟩ v') := by
  intro b c f hb
  have hlt : b < W.heap.size := (Array.getElem?_eq_some_iff.1 hb).1
  have h1 : (W.alloc tmp).heap[b]? = some (Obj.cells c 24 f) := (Below.heap_alloc _ _ _ hlt).trans hb
  have hne : some b ≠ v.ownBlock := by
    rcases hrow.2 with ⟨rfl, _⟩ | ⟨g, cap, cur, rfl, _, hgb, _⟩
    · simp [Value.ownBlock]
    · intro e'
      obtain rfl : b = g := by simpa [Value.ownBlock] using e'
      have := hb.symm.trans hgb
      simp at this
  have hbB : b ≠ B := by
    rintro rfl
    have := hb.symm.trans (show W.heap[b]? = _ from hv)
    simp at this
  have h2 : w1.heap[b]? = some (Obj.cells c 24 f) := (hgrow.block b (by simp; omega) hne).trans h1
  exact (Below.heap_setCell w1 ⟨B, 0, none⟩ v' b hbB).trans h2
theorem kp24_b {n₀ : Nat} (W : World) (l : Nat) (o o' : Obj) (_ : n₀ ≤ l) (h : W.heap[l]? = some o) (h1 : o.isCells = false) (_ : o.isWalk = false) : Kp24 W (W.putObj l o') := by
  intro b c f hb
  have : b ≠ l := by
    rintro rfl
    rw [hb] at h; cases h; cases h1
  rw [World.putObj_heap_other this]; exact hb
set_option maxRecDepth 100000 in
set_option maxHeartbeats 2000000 in
theorem list_in (F : Fence) (HF : Hid (F = Fence.wide)) (n : Nat) (hn3 : 3 ≤ n) (s lo hi : Nat) (most : Int) (uh : U hi) (ha : Rt ⟨s, lo, hi⟩) (hn : (⟨s, lo, hi⟩ : St) ≠ noneS) (hm : ((stN s lo hi + 1 : Nat) : Int) ≤ most) (hm2 : most ≤ 1000000) (w : World) :
    CallsIn F n Tryd.prog 12 #[sv s lo hi, .int .i64 most] w fun e W' => ∃ v, e = .returned v ∧ W'.ownsRow w.heap.size 22 1 v (stN s lo hi + 1) ((upto (fun k => lo + k * s) (stN s lo hi + 1)).map (fun x : Nat => Value.int .u64 (x : Int))) ∧ Below w.heap.size w W' := by
  have h1 : 1 ≤ n := by omega
  have hro : F.round = none := by rw [HF.out]; rfl
  have h12 : F.fn 12 := by rw [HF.out]; trivial
  have h30 : F.fn 30 := by rw [HF.out]; trivial
  have h42 : F.fn 42 := by rw [HF.out]; trivial
  have hdp : F.depth = none := by rw [HF.out]; rfl
  obtain ⟨i0, hi0, hz0, hz1, hz2⟩ := info_parts info22
  refine callsIn_of_wp_marks Tryd.func12 rfl h12 ?_ hro
  simp only [Tryd.ntmps12, List.size_toArray, List.length_cons, List.length_nil, Nat.reduceAdd, Nat.reduceSub, Array.replicate_succ, Array.replicate_zero, List.push_toArray, List.append_toArray, List.nil_append, List.cons_append]
  refine wpIn_of_wp HF ?_
  go_wp2
  go_step3
  go_wp2
  go_step3
  go_wp2_with fail
  go_at_call 30
  refine (values_calls _ _ _ _).mono ?_
  rintro e w' ⟨rfl, rfl⟩
  go_wp2
  have bM := (Boxed.new (w.alloc (sb s lo hi)) 3 (.int .i64 most)).alloc (Obj.cells #[Value.slice none 0 0] 31)
  have bO := Boxed.new ((w.alloc (sb s lo hi)).alloc (Obj.cells #[Value.int IntKind.i64 most] 3)) 31 (.slice none 0 0)
  have kS := Slot3.new (((w.alloc (sb s lo hi)).alloc (Obj.cells #[Value.int IntKind.i64 most] 3)).alloc (Obj.cells #[Value.slice none 0 0] 31)) (.int .u64 (s : Int)) (.int .u64 (lo : Int)) (.int .u64 (hi : Int)) 24
  simp only [World.size_alloc] at bM bO kS
  obtain ⟨k0, k1, k2, -, -, -, -⟩ := kS
  have hB0 : Below w.heap.size w ((((w.alloc (sb s lo hi)).alloc (Obj.cells #[Value.int IntKind.i64 most] 3)).alloc (Obj.cells #[Value.slice none 0 0] 31)).alloc (sb s lo hi)) := ((((Below.refl _ _).alloc (Nat.le_refl _) _).alloc (by simp) _).alloc (by simp; omega) _).alloc (by simp; omega) _
  refine wp_of_wpIn HF n ?_
  refine wpIn_rangeFunc_ownG hro h1 (gf := 42) (lb := #[.pointer (some ⟨w.heap.size + 1 + 1 + 1, 0, none⟩)]) rfl h42 (enters_of Tryd.func42 (by kernel_rfl) rfl)
    (values_stops F HF (n - 1) (w.heap.size + 1 + 1 + 1) s lo hi uh ha hn _ (by simp) k0 k1 k2) kp24_t kp24_b (Below.refl _ _) (fun _ => rfl)
    (fun pre W => (((∃ v, Boxed W (w.heap.size + 1 + 1) 31 v ∧ W.ownsRow w.heap.size 22 1 v pre.length (pre.map (fun x : Nat => Value.int .u64 (x : Int))) ∧ True) ∧ Boxed W (w.heap.size + 1) 3 (.int .i64 most)) ∧ Below w.heap.size w W))
    (fun _ _ _ => False)
    (OwnFrom.and (OwnFrom.and (Own.from (holdsRow_own w.heap.size (w.heap.size + 1 + 1) 31 22 1 (fun pre : List Nat => pre.length) (fun pre => pre.map (fun x : Nat => Value.int .u64 (x : Int))) (fun _ _ => True)) _) (Own.from (boxed_own _ _ _) _)) (ownFrom_below (Nat.le_refl _) (by simp; omega)))
    (fun _ _ _ _ _ hs _ _ => hs)
    ⟨⟨⟨_, bO.alloc _, World.ownsRow_nil _ _ _ _, trivial⟩, bM.alloc _⟩, hB0⟩
    (fun x => { tmps := #[sv s lo hi, .int .i64 most, .pointer (some ⟨w.heap.size, 0, none⟩), .pointer (some ⟨w.heap.size + 1, 0, none⟩), .slice none 0 0, .pointer (some ⟨w.heap.size + 1 + 1, 0, none⟩), .int .u64 (x : Int), sv s lo hi, .func (.func 42) #[] #[.pointer (some ⟨w.heap.size + 1 + 1 + 1, 0, none⟩)], .int .u64 (x : Int), undef, undef, undef, undef, undef, undef, undef, undef, undef], defers := [] }) ?assign ?body ?done ?stop
  case assign =>
    intro l x W K hK
    gi_wp2
    exact hK
  case body =>
    rintro l pre x W ⟨⟨⟨v, hv, hrow, -⟩, hbm⟩, hB⟩ hlt
    obtain ⟨va, cap, rfl⟩ := row_form hrow
    have hc := hv.cell
    have hcm := hbm.cell
    have hf := hv.frozen
    have hlt' : ((pre.length : Nat) : Int) < most := by omega
    have hge : ¬ most ≤ ((pre.length : Nat) : Int) := by omega
    gi_wp2_with (gi_at_builtin; refine wpListIn_append_own _ rfl _ _ 31 rfl w.heap.size 22 i0 (.int .u64 0) 1 8 Tryd.underlying31 hi0 hz0 hz1 hz2 rfl (by decide) _ _ _ rfl (hrow.alloc _) ⟨W.heap.size, 0, none⟩ 1 1 [.int .u64 (x : Int)] rfl rfl (cell_one_new _ _ _) (by simp [Value.oneCell']) (by unfold maxLen; omega) (by omega) (by have := hB.size; simp; omega) ?_; intro v' w1 hown' hgrow _; obtain ⟨g', cap', rfl⟩ := ownsRow_succ hown'; obtain ⟨hv1, hv2, hr2, hk2, hb2⟩ := hv.appended (by decide) hrow hB.size (by omega) hown' hgrow; have hc1 := hv1.cell; have hf1 := hv1.frozen)
    have hbm2 := Boxed.kept ((hbm.alloc _).kept hgrow (hbm.not_row (by decide) hrow)) (grownBy_setCell' w1 (w.heap.size + 1 + 1) (Value.slice (some ⟨g', 0, none⟩) (pre.length + 1) cap')) (by simp)
    exact ⟨hk2.from _, kp24_append hv hrow hgrow, ⟨⟨⟨_, hv2, by simpa using hr2⟩, hbm2⟩, hB.trans hb2⟩⟩
  case done =>
    rintro D ys W hD rfl ⟨⟨⟨v, hv, hrow, -⟩, hbm⟩, hB⟩ hK
    have hc := hv.cell
    have hlen := upto_length (fun k => lo + k * s) (stN s lo hi + 1)
    have HR := Lib.hid hrow
    clear hrow hlen
    go_wp2
    refine ⟨by simp, .inl ⟨_, _, rfl, run_takeDeferred hK, ?_⟩⟩
    have hR2 := ownsRow_putObj HR.out (Obj.deferred none) hK rfl
    rw [upto_length] at hR2
    exact ⟨_, results_tmp rfl _ _ _, v, rfl, hR2, hB.trans (belowK_b (w := w) (Nat.le_refl _) W D _ _ (by simp at hD; omega) hK rfl rfl)⟩
  case stop =>
    rintro D c pre W _ _ h _
    exact h.elim
end Go.Proofs.YtmlgaaolofgdiaaDoor
