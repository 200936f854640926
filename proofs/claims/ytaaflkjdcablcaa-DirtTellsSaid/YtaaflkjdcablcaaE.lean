/- dirt: neighbours that meet are one. -/
import Derived.Test.YtaaflkjdcablcaaC
namespace Go.Proofs.Ytaaflkjdcablcaa
open Go.RowKit Go.Shelf
set_option linter.unusedVariables false
set_option linter.unusedSimpArgs false
attribute [local go_sem] Oper.semAt_some
def maxN (a b : Nat) : Nat := max a b
/-- The blocks of a call of meet. -/
def MB (w : World) (a b c d : Nat) (W : World) : Prop := RB W w.heap.size a b ∧ RB W (w.heap.size + 1) c d ∧ (∃ x y, RB W (w.heap.size + 1 + 1) x y) ∧ Below w.heap.size w W
theorem MB.keep {w W W' : World} {a b c d : Nat} (h : MB w a b c d W) (hb : Below W.heap.size W W') : MB w a b c d W' :=
  ⟨h.1.keep hb, h.2.1.keep hb, ⟨_, _, h.2.2.1.choose_spec.choose_spec.keep hb⟩, h.2.2.2.trans (hb.mono h.2.2.2.size)⟩
theorem MB.new (w : World) (a b c d : Nat) : MB w a b c d (((w.alloc (.cells #[.int .u64 (a : Nat), .int .u64 (b : Nat)] 25)).alloc (.cells #[.int .u64 (c : Nat), .int .u64 (d : Nat)] 25)).alloc (.cells #[.int .u64 0, .int .u64 0] 25)) := by
  have h1 := RB.new w a b
  have h2 := RB.new (w.alloc (.cells #[.int .u64 (a : Nat), .int .u64 (b : Nat)] 25)) c d
  have h3 := RB.new ((w.alloc (.cells #[.int .u64 (a : Nat), .int .u64 (b : Nat)] 25)).alloc (.cells #[.int .u64 (c : Nat), .int .u64 (d : Nat)] 25)) 0 0
  simp only [World.size_alloc] at h2 h3
  refine ⟨(h1.keep ((Below.refl _ _).alloc (Nat.le_refl _) _)).keep ((Below.refl _ _).alloc (Nat.le_refl _) _), h2.keep ((Below.refl _ _).alloc (Nat.le_refl _) _), ⟨0, 0, h3⟩, ?_⟩
  exact (((Below.refl _ _).alloc (Nat.le_refl _) _).alloc (by simp only [World.size_alloc]; omega) _).alloc (by simp only [World.size_alloc]; omega) _
theorem RB.f {W : World} {b lo hi : Nat} (h : RB W b lo hi) (j : Nat) : W.frozen? ⟨b, j, none⟩ = false := by
  have h' : W.heap[b]? = some (.cells #[.int .u64 (lo : Nat), .int .u64 (hi : Nat)] 25 (0, 0)) := h
  simp [World.frozen?, h']
theorem RB.put {W : World} {b lo hi : Nat} (h : RB W b lo hi) (x y : Nat) : RB ((W.setCell ⟨b, 0, none⟩ (.int .u64 (x : Nat))).setCell ⟨b, 1, none⟩ (.int .u64 (y : Nat))) b x y := by
  have h' : W.heap[b]? = some (.cells #[.int .u64 (lo : Nat), .int .u64 (hi : Nat)] 25 (0, 0)) := h
  unfold RB
  simp [World.setCell, Array.getElem?_modify, h']
theorem RB.far {W : World} {b lo hi q : Nat} (h : RB W b lo hi) (hq : b ≠ q) (j : Nat) (v : Value) : RB (W.setCell ⟨q, j, none⟩ v) b lo hi := (Below.heap_setCell W ⟨q, j, none⟩ v b hq).trans h
theorem MB.put {w W : World} {a b c d : Nat} (h : MB w a b c d W) (x y : Nat) : MB w a b c d ((W.setCell ⟨w.heap.size + 1 + 1, 0, none⟩ (.int .u64 (x : Nat))).setCell ⟨w.heap.size + 1 + 1, 1, none⟩ (.int .u64 (y : Nat))) ∧ RB ((W.setCell ⟨w.heap.size + 1 + 1, 0, none⟩ (.int .u64 (x : Nat))).setCell ⟨w.heap.size + 1 + 1, 1, none⟩ (.int .u64 (y : Nat))) (w.heap.size + 1 + 1) x y := by
  have hr := h.2.2.1.choose_spec.choose_spec.put x y
  exact ⟨⟨(h.1.far (by omega) _ _).far (by omega) _ _, (h.2.1.far (by omega) _ _).far (by omega) _ _, ⟨x, y, hr⟩, (h.2.2.2.setCell (show w.heap.size ≤ w.heap.size + 1 + 1 by omega) _).setCell (show w.heap.size ≤ w.heap.size + 1 + 1 by omega) _⟩, hr⟩
theorem res36 {W : World} {b x y : Nat} {r : Bool} {tm : Array Value} (hp : tm.getD 4 undef = .pointer (some ⟨b, 0, none⟩)) (hr : tm.getD 5 undef = .bool r) (h : RB W b x y) : (results Try.f36 tm).run Try.prog W = .ok (.tuple #[.agg #[.int .u64 (x : Nat), .int .u64 (y : Nat)], .bool r]) W := by
  rw [results_cell_tmp (fn := Try.f36) (p := 4) (u := 5) (ty := 25) rfl, hp, hr]
  have hl : (loadVar 25 ⟨b, 0, none⟩).run Try.prog W = .ok (.agg #[.int .u64 (x : Nat), .int .u64 (y : Nat)]) W := run_loadVar_row _ _ 25 25 #[.int .u64 (x : Nat), .int .u64 (y : Nat)] (0, 0) _ h Try.underlying25 rfl (by kernel_rfl)
  simp [asAddr, hl, Result.andThen]
set_option maxRecDepth 100000 in
set_option maxHeartbeats 4000000 in
theorem meet_any (a b c d : Nat) (hc : U c) (w : World) :
    Calls Try.prog 36 #[.agg #[.int .u64 (a : Nat), .int .u64 (b : Nat)], .agg #[.int .u64 (c : Nat), .int .u64 (d : Nat)]] w fun e w' => e = .returned (.tuple #[.agg #[.int .u64 (a : Nat), .int .u64 (maxN b d : Nat)], .bool (!apartB b c)]) ∧ Below w.heap.size w w' := by
  have HM := Lib.hid (MB.new w a b c d)
  have HA := Lib.hid (fun w => apart_any a b c d hc w)
  have hx : (if b < d then (d : Int) else (b : Int)) = ((maxN b d : Nat) : Int) := by unfold maxN; split <;> omega
  have HX := Lib.hid hx
  clear hx
  generalize apartB b c = t at HA ⊢
  go_enter Try.func36, Try.ntmps36
  go_upto_region 1 with fail
  generalize World.alloc (World.alloc (World.alloc w _) _) _ = W1 at HM ⊢
  refine wp_region_noPanic ?_
  refine wp_region_held_drew (S := fun W : World => MB w a b c d W) (by kernel_rfl) ?_ (fun hHeld => ?_)
  · exact ⟨HM.out.1, HM.out.2.1, HM.out.2.2.1, HM.out.2.2.2.drew⟩
  generalize World.drew _ = W2 at hHeld ⊢
  clear HM
  refine wpAnyH_take (i := 0) (v := ?_) rfl (by kernel_rfl) (by kernel_rfl) (by kernel_rfl) (fun _ _ _ h => h) (Or.inl ⟨by kernel_rfl, ?_⟩) (by assumption) ?_
  rotate_left
  · intro wv hSw
    go_simp
    try with_reducible rfl
  simp only [Act.put, List.setIfInBounds_toArray, List.set_cons_zero, List.set_cons_succ, List.getElem_toArray, List.getElem_cons_succ, List.getElem_cons_zero]
  refine wpAnyH_take (i := 1) (v := ?_) rfl (by kernel_rfl) (by kernel_rfl) (by kernel_rfl) (fun _ _ _ h => h) (Or.inl ⟨by kernel_rfl, ?_⟩) (by assumption) ?_
  rotate_left
  · intro wv hSw
    obtain ⟨e0, e1⟩ := hSw.1.c
    go_simp
    try with_reducible rfl
  simp only [Act.put, List.setIfInBounds_toArray, List.set_cons_zero, List.set_cons_succ, List.getElem_toArray, List.getElem_cons_succ, List.getElem_cons_zero]
  refine wpAnyH_take (i := 2) (v := ?_) rfl (by kernel_rfl) (by kernel_rfl) (by kernel_rfl) (fun _ _ _ h => h) (Or.inl ⟨by kernel_rfl, ?_⟩) (by assumption) ?_
  rotate_left
  · intro wv hSw
    go_simp
    try with_reducible rfl
  simp only [Act.put, List.setIfInBounds_toArray, List.set_cons_zero, List.set_cons_succ, List.getElem_toArray, List.getElem_cons_succ, List.getElem_cons_zero]
  refine wpAnyH_take (i := 3) (v := ?_) rfl (by kernel_rfl) (by kernel_rfl) (by kernel_rfl) (fun _ _ _ h => h) (Or.inl ⟨by kernel_rfl, ?_⟩) (by assumption) ?_
  rotate_left
  · intro wv hSw
    obtain ⟨e0, e1⟩ := hSw.1.c
    go_simp
    try with_reducible rfl
  simp only [Act.put, List.setIfInBounds_toArray, List.set_cons_zero, List.set_cons_succ, List.getElem_toArray, List.getElem_cons_succ, List.getElem_cons_zero]
  refine wpAnyH_take (i := 4) (v := ?_) rfl (by kernel_rfl) (by kernel_rfl) (by kernel_rfl) (fun _ _ _ h => h) (Or.inl ⟨by kernel_rfl, ?_⟩) (by assumption) ?_
  rotate_left
  · intro wv hSw
    go_simp
    try with_reducible rfl
  simp only [Act.put, List.setIfInBounds_toArray, List.set_cons_zero, List.set_cons_succ, List.getElem_toArray, List.getElem_cons_succ, List.getElem_cons_zero]
  refine wpAnyH_take (i := 5) (v := ?_) rfl (by kernel_rfl) (by kernel_rfl) (by kernel_rfl) (fun _ _ _ h => h) (Or.inl ⟨by kernel_rfl, ?_⟩) (by assumption) ?_
  rotate_left
  · intro wv hSw
    obtain ⟨e0, e1⟩ := hSw.2.1.c
    go_simp
    try with_reducible rfl
  simp only [Act.put, List.setIfInBounds_toArray, List.set_cons_zero, List.set_cons_succ, List.getElem_toArray, List.getElem_cons_succ, List.getElem_cons_zero]
  refine wpAnyH_take (i := 6) (v := ?_) rfl (by kernel_rfl) (by kernel_rfl) (by kernel_rfl) (fun _ _ _ h => h) (Or.inl ⟨by kernel_rfl, ?_⟩) (by assumption) ?_
  rotate_left
  · intro wv hSw
    go_simp
    try rw [HX.out]
    try with_reducible rfl
  simp only [Act.put, List.setIfInBounds_toArray, List.set_cons_zero, List.set_cons_succ, List.getElem_toArray, List.getElem_cons_succ, List.getElem_cons_zero]
  refine wpAnyH_take (i := 7) (v := ?_) rfl (by kernel_rfl) (by kernel_rfl) (by kernel_rfl) (fun _ _ _ h => h) (Or.inl ⟨by kernel_rfl, ?_⟩) (by assumption) ?_
  rotate_left
  · intro wv hSw
    go_simp
    try with_reducible rfl
  simp only [Act.put, List.setIfInBounds_toArray, List.set_cons_zero, List.set_cons_succ, List.getElem_toArray, List.getElem_cons_succ, List.getElem_cons_zero]
  refine wpAnyH_take (i := 8) (v := ?_) rfl (by kernel_rfl) (by kernel_rfl) (by kernel_rfl) (fun _ _ _ h => h) (Or.inl ⟨by kernel_rfl, ?_⟩) (by assumption) ?_
  rotate_left
  · intro wv hSw
    obtain ⟨e0, e1⟩ := hSw.1.c
    go_simp
    try with_reducible rfl
  simp only [Act.put, List.setIfInBounds_toArray, List.set_cons_zero, List.set_cons_succ, List.getElem_toArray, List.getElem_cons_succ, List.getElem_cons_zero]
  refine wpAnyH_take (i := 9) (v := ?_) rfl (by kernel_rfl) (by kernel_rfl) (by kernel_rfl) (fun _ _ _ h => h) (Or.inl ⟨by kernel_rfl, ?_⟩) (by assumption) ?_
  rotate_left
  · intro wv hSw
    obtain ⟨e0, e1⟩ := hSw.2.1.c
    go_simp
    try with_reducible rfl
  simp only [Act.put, List.setIfInBounds_toArray, List.set_cons_zero, List.set_cons_succ, List.getElem_toArray, List.getElem_cons_succ, List.getElem_cons_zero]
  refine wpAnyH_ready (rs := [10]) (by kernel_rfl) (by simp) ?_
  refine AllReadyH.cons rfl (fun K hK => ?_) AllReadyH.nil
  go_simp
  go_at_call 28
  refine (HA.out _).mono ?_
  first | (rintro e W9x rfl hb) | (rintro e W9x ⟨rfl, hb⟩)
  refine hK.out _ _ (hHeld.keep hb) (fun hHeld2 => ?_)
  clear hK K hHeld hb
  have hHeld := hHeld2
  clear hHeld2
  try simp only [Act.put, List.setIfInBounds_toArray, List.set_cons_zero, List.set_cons_succ, List.getElem_toArray, List.getElem_cons_succ, List.getElem_cons_zero]
  refine wpAnyH_take (i := 11) (v := ?_) rfl (by kernel_rfl) (by kernel_rfl) (by kernel_rfl) (fun _ _ _ h => h) (Or.inl ⟨by kernel_rfl, ?_⟩) (by assumption) ?_
  rotate_left
  · intro wv hSw
    go_simp
    try with_reducible rfl
  simp only [Act.put, List.setIfInBounds_toArray, List.set_cons_zero, List.set_cons_succ, List.getElem_toArray, List.getElem_cons_succ, List.getElem_cons_zero]
  refine wpAnyH_ready (rs := [12]) (by kernel_rfl) (by simp) ?_
  refine AllReadyH.cons rfl (fun K hK => ?_) AllReadyH.nil
  have h9 := Lib.hid (hHeld.put a (maxN b d))
  obtain ⟨x, y, hy⟩ := hHeld.2.2.1
  obtain ⟨e0, e1⟩ := hy.c
  have f0 := hy.f 0
  have f1 := hy.f 1
  go_simp
  refine hK.out _ _ h9.out.1 (fun hHeld2 => ?_)
  clear hK K hHeld hy e0 e1 f0 f1 hHeld2
  generalize World.setCell (World.setCell _ _ _) _ _ = W3 at h9 ⊢
  have hHeld := h9.out.1
  try simp only [Act.put, List.setIfInBounds_toArray, List.set_cons_zero, List.set_cons_succ, List.getElem_toArray, List.getElem_cons_succ, List.getElem_cons_zero]
  refine wpAnyH_take (i := 13) (v := ?_) rfl (by kernel_rfl) (by kernel_rfl) (by kernel_rfl) (fun _ _ _ h => h) (Or.inl ⟨by kernel_rfl, ?_⟩) (by assumption) ?_
  rotate_left
  · intro wv hSw
    go_simp
    try with_reducible rfl
  simp only [Act.put, List.setIfInBounds_toArray, List.set_cons_zero, List.set_cons_succ, List.getElem_toArray, List.getElem_cons_succ, List.getElem_cons_zero]
  refine wpAnyH_done (by kernel_rfl) ?_ _
  refine NoPanic.normal ?_
  go_wp2_with fail
  exact bodyPost_ret (res36 rfl rfl h9.out.2) rfl ⟨rfl, h9.out.1.2.2.2⟩
end Go.Proofs.Ytaaflkjdcablcaa
