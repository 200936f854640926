/- vector.product. -/
import Derived.Test.YtldicconopcipaaF
import Derived.Test.YtldicconopcipaaB
namespace Go.Proofs.Ytldicconopcipaa
open Go.RowKit Go.Shelf
set_option linter.unusedVariables false
set_option linter.unusedSimpArgs false
attribute [local go_sem] Oper.semAt_some
theorem exec_load22 {o : Oper} {ρ : Operand → Value} {W : World} {x : Operand} {b : Nat} {vs : Array Value} (ho : o.op = .load 22 x) (hx : ρ x = .pointer (some ⟨b, 0, none⟩)) (h : R16 W b vs) :
    (execOp ρ o).run Try.prog W = .ok (.value (.agg vs)) W := by
  unfold execOp
  rw [ho]
  simp only [hx, Instr.loadAt, Instr.sureAddr, Sem.run_bind, Sem.run_pure, Result.andThen, load_run h]
set_option maxHeartbeats 1000000 in
theorem pick_any (y0 y1 : Int) (bit imm : Int) (s : Bool) (hs : (bits .and .u8 imm bit != 0) = s) (pi : Nat) (w : World) (hc : w.cell? ⟨pi, 0, none⟩ = some (.int .u8 imm)) :
    Calls Try.prog 44 #[.agg #[.int .u64 y0, .int .u64 y1], .int .u8 bit, .pointer (some ⟨pi, 0, none⟩)] w fun e w' => e = .returned (.int .u64 (if s then y1 else y0)) ∧ Below w.heap.size w w' := by
  have hlt : pi < w.heap.size := by
    by_cases hh : pi < w.heap.size
    · exact hh
    · exfalso
      have h0 : w.heap[pi]? = none := Array.getElem?_eq_none (by omega)
      simp [World.cell?, h0] at hc
  have hc2 : (w.alloc (Obj.cells #[.int .u64 y0, .int .u64 y1] 38)).cell? ⟨pi, 0, none⟩ = some (.int .u8 imm) := (((Below.refl w.heap.size w).alloc (Nat.le_refl _) _).cell (p := ⟨pi, 0, none⟩) hlt).trans hc
  have hb : Below w.heap.size w (w.alloc (Obj.cells #[.int .u64 y0, .int .u64 y1] 38)) := (Below.refl _ w).alloc (Nat.le_refl _) _
  have HB := Lib.hid hb
  clear hc hlt hb
  cases s
  all_goals
    go_enter Try.func44, Try.ntmps44
    go_wp2_with fail
    go_ret
    exact ⟨rfl, HB.out⟩
/-- What lies while the product is made. -/
def PS (w : World) (x y : Array Value) (imm : Int) (W : World) : Prop :=
  R16 W w.heap.size x ∧ R16 W (w.heap.size + 1) y ∧ W.cell? ⟨w.heap.size + 1 + 1, 0, none⟩ = some (.int .u8 imm) ∧ (∃ rv, R16 W (w.heap.size + 1 + 1 + 1) rv) ∧ Below w.heap.size w W
theorem PS.drew {w : World} {x y : Array Value} {imm : Int} {W : World} (h : PS w x y imm W) : PS w x y imm W.drew := ⟨h.1, h.2.1, h.2.2.1, h.2.2.2.1, h.2.2.2.2.drew⟩
theorem PS.below {w : World} {x y : Array Value} {imm : Int} {W W' : World} (h : PS w x y imm W) (hb : Below W.heap.size W W') : PS w x y imm W' := by
  obtain ⟨h1, h2, h3, ⟨rv, h4⟩, h5⟩ := h
  exact ⟨h1.keep hb, h2.keep hb, (hb.cell (p := ⟨w.heap.size + 1 + 1, 0, none⟩) (by have := h4.lt; dsimp only; omega)).trans h3, ⟨rv, h4.keep hb⟩, h5.trans (hb.mono h5.size)⟩
theorem PS.imm {w : World} {x y : Array Value} {imm : Int} {W : World} (h : PS w x y imm W) : W.cell? ⟨w.heap.size + 1 + 1, 0, none⟩ = some (.int .u8 imm) := h.2.2.1
theorem PS.put {w : World} {x y r : Array Value} {imm : Int} {W : World} (h : PS w x y imm W) (hr : r.size = 16) (hr1 : r.all (·.oneCell') = true) :
    PS w x y imm (W.setRow (w.heap.size + 1 + 1 + 1) r) ∧ R16 (W.setRow (w.heap.size + 1 + 1 + 1) r) (w.heap.size + 1 + 1 + 1) r := by
  obtain ⟨h1, h2, h3, ⟨rv, h4⟩, h5⟩ := h
  have h9 := h4.row hr hr1
  refine ⟨⟨h1.far (by omega), h2.far (by omega), ?_, ⟨_, h9⟩, below_row h5 (by omega)⟩, h9⟩
  have : (W.setRow (w.heap.size + 1 + 1 + 1) r).heap[w.heap.size + 1 + 1]? = W.heap[w.heap.size + 1 + 1]? := setRow_other (by omega)
  simpa [World.cell?, this] using h3
theorem exec_store22 {o : Oper} {ρ : Operand → Value} {W : World} {x y : Operand} {b : Nat} {us vs : Array Value} (ho : o.op = .store 22 x y) (hx : ρ x = .pointer (some ⟨b, 0, none⟩)) (hy : ρ y = .agg vs) (h : R16 W b us) (hs : vs.size = 16) (h1 : vs.all (·.oneCell') = true) :
    (execOp ρ o).run Try.prog W = .ok .skip (W.setRow b vs) := by
  unfold execOp
  rw [ho]
  simp only [hx, hy, Instr.storeAt, Instr.sureAddr, Sem.run_bind, Sem.run_pure, Result.andThen, store_run h hs h1]
theorem wp_store22 {o : Oper} {a : Act} {W : World} {K : Act → World → Prop} {Q : Exit → Act → World → Prop} {x y : Operand} {b : Nat} {us vs : Array Value} (ho : o.op = .store 22 x y) (hx : a.eval x = .pointer (some ⟨b, 0, none⟩)) (hy : a.eval y = .agg vs) (h : R16 W b us) (hs : vs.size = 16) (h1 : vs.all (·.oneCell') = true)
    (hK : K (a.put o.dst undef) (W.setRow b vs)) : Oper.wp Try.prog o a W K Q := by
  unfold Oper.wp
  rw [exec_store22 ho hx hy h hs h1, Oper.upon_skip]
  exact hK
set_option maxRecDepth 100000 in
set_option maxHeartbeats 1000000 in
theorem product_core (x y r : Array Value) (hx : x.size = 16) (hx1 : x.all (·.oneCell') = true) (hy : y.size = 16) (hy1 : y.all (·.oneCell') = true) (hr : r.size = 16) (hr1 : r.all (·.oneCell') = true) (imm x0 x1 y0 y1 lo hi : Int) (s1 s2 : Bool)
    (hX : ∀ W, Calls Try.prog 18 #[.agg x] W fun e W' => e = .returned (.agg #[.int .u64 x0, .int .u64 x1]) ∧ Below W.heap.size W W')
    (hY : ∀ W, Calls Try.prog 18 #[.agg y] W fun e W' => e = .returned (.agg #[.int .u64 y0, .int .u64 y1]) ∧ Below W.heap.size W W')
    (hp1 : (bits .and .u8 imm 1 != 0) = s1) (hp2 : (bits .and .u8 imm 16 != 0) = s2) (p1 p2 : Int) (e1 : (if s1 then x1 else x0) = p1) (e2 : (if s2 then y1 else y0) = p2)
    (hC : ∀ W, Calls Try.prog 45 #[.int .u64 p1, .int .u64 p2] W fun e W' => e = .returned (.tuple #[.int .u64 lo, .int .u64 hi]) ∧ Below W.heap.size W W')
    (hbl : ∀ W, Calls Try.prog 13 #[.int .u64 lo, .int .u64 hi] W fun e W' => e = .returned (.agg r) ∧ Below W.heap.size W W') (w : World) :
    Calls Try.prog 32 #[.agg x, .agg y, .int .u8 imm] w fun e w' => e = .returned (.agg r) ∧ Below w.heap.size w w' := by
  have HX := Lib.hid hX
  have HY := Lib.hid hY
  have hpk1 : ∀ W, W.cell? ⟨w.heap.size + 1 + 1, 0, none⟩ = some (.int .u8 imm) → Calls Try.prog 44 #[.agg #[.int .u64 x0, .int .u64 x1], .int .u8 1, .pointer (some ⟨w.heap.size + 1 + 1, 0, none⟩)] W fun e w' => e = .returned (.int .u64 p1) ∧ Below W.heap.size W w' := fun W h => by rw [← e1]; exact pick_any _ _ _ _ _ hp1 _ W h
  have hpk2 : ∀ W, W.cell? ⟨w.heap.size + 1 + 1, 0, none⟩ = some (.int .u8 imm) → Calls Try.prog 44 #[.agg #[.int .u64 y0, .int .u64 y1], .int .u8 16, .pointer (some ⟨w.heap.size + 1 + 1, 0, none⟩)] W fun e w' => e = .returned (.int .u64 p2) ∧ Below W.heap.size W w' := fun W h => by rw [← e2]; exact pick_any _ _ _ _ _ hp2 _ W h
  have HP1 := Lib.hid hpk1
  have HP2 := Lib.hid hpk2
  have HC := Lib.hid hC
  have HBL := Lib.hid hbl
  clear hX hY hp1 hp2 hC hbl hpk1 hpk2 e1 e2
  have h1 := (((R16.new w x hx hx1).alloc (.cells y 22)).alloc (.cells #[.int .u8 imm] 5)).alloc (.cells #[.int .u8 0, .int .u8 0, .int .u8 0, .int .u8 0, .int .u8 0, .int .u8 0, .int .u8 0, .int .u8 0, .int .u8 0, .int .u8 0, .int .u8 0, .int .u8 0, .int .u8 0, .int .u8 0, .int .u8 0, .int .u8 0] 22)
  have h2 := ((R16.new (w.alloc (.cells x 22)) y hy hy1).alloc (.cells #[.int .u8 imm] 5)).alloc (.cells #[.int .u8 0, .int .u8 0, .int .u8 0, .int .u8 0, .int .u8 0, .int .u8 0, .int .u8 0, .int .u8 0, .int .u8 0, .int .u8 0, .int .u8 0, .int .u8 0, .int .u8 0, .int .u8 0, .int .u8 0, .int .u8 0] 22)
  have h3 := (Boxed.new ((w.alloc (.cells x 22)).alloc (.cells y 22)) 5 (.int .u8 imm)).alloc (.cells #[.int .u8 0, .int .u8 0, .int .u8 0, .int .u8 0, .int .u8 0, .int .u8 0, .int .u8 0, .int .u8 0, .int .u8 0, .int .u8 0, .int .u8 0, .int .u8 0, .int .u8 0, .int .u8 0, .int .u8 0, .int .u8 0] 22)
  have h4 := R16.newz (((w.alloc (.cells x 22)).alloc (.cells y 22)).alloc (.cells #[.int .u8 imm] 5))
  have hB : Below w.heap.size w ((((w.alloc (.cells x 22)).alloc (.cells y 22)).alloc (.cells #[.int .u8 imm] 5)).alloc (.cells #[.int .u8 0, .int .u8 0, .int .u8 0, .int .u8 0, .int .u8 0, .int .u8 0, .int .u8 0, .int .u8 0, .int .u8 0, .int .u8 0, .int .u8 0, .int .u8 0, .int .u8 0, .int .u8 0, .int .u8 0, .int .u8 0] 22)) :=
    ((((Below.refl _ w).alloc (Nat.le_refl _) _).alloc (by simp) _).alloc (by simp; omega) _).alloc (by simp; omega) _
  simp only [World.size_alloc] at h2 h3 h4
  have HS : Hid (PS w x y imm ((((w.alloc (.cells x 22)).alloc (.cells y 22)).alloc (.cells #[.int .u8 imm] 5)).alloc (.cells #[.int .u8 0, .int .u8 0, .int .u8 0, .int .u8 0, .int .u8 0, .int .u8 0, .int .u8 0, .int .u8 0, .int .u8 0, .int .u8 0, .int .u8 0, .int .u8 0, .int .u8 0, .int .u8 0, .int .u8 0, .int .u8 0] 22))) := Lib.hid ⟨h1, h2, h3.cell, ⟨_, h4⟩, hB⟩
  clear h1 h2 h3 h4 hB
  go_enter Try.func32, Try.ntmps32
  go_upto_region 1 with fail
  generalize World.alloc (World.alloc (World.alloc (World.alloc _ _) _) _) _ = W0 at *
  have hmf : ∀ (fn : Fn) (first cap : Array Value) (w : World), (Instr.makeFunc fn first cap).run Try.prog w = .ok (.func fn first cap) w := fun _ _ _ _ => rfl
  go_wp2_with fail
  refine wp_region_noPanic ?_
  refine wp_region_held_drew (S := fun W => PS w x y imm W) (by kernel_rfl) ?_ (fun hHeld => ?_)
  · exact HS.out.drew
  generalize World.drew _ = W4 at hHeld ⊢
  refine wpAnyH_take (i := 0) (v := ?_) rfl (by kernel_rfl) (by kernel_rfl) (by kernel_rfl) (fun _ _ _ h => h) (Or.inl ⟨by kernel_rfl, ?_⟩) (by assumption) ?_
  rotate_left
  · intro w hSw
    go_simp
    try with_reducible rfl
  simp only [Act.put, List.setIfInBounds_toArray, List.set_cons_zero, List.set_cons_succ, List.getElem_toArray, List.getElem_cons_succ, List.getElem_cons_zero]
  refine wpAnyH_take (i := 1) (v := ?_) rfl (by kernel_rfl) (by kernel_rfl) (by kernel_rfl) (fun _ _ _ h => h) (Or.inl ⟨by kernel_rfl, ?_⟩) (by assumption) ?_
  rotate_left
  · intro w hSw
    refine exec_load22 (x := .tmp 3) ?_ ?_ hSw.1
    · rfl
    · rfl
    try with_reducible rfl
  simp only [Act.put, List.setIfInBounds_toArray, List.set_cons_zero, List.set_cons_succ, List.getElem_toArray, List.getElem_cons_succ, List.getElem_cons_zero]
  refine wpAnyH_take (i := 4) (v := ?_) rfl (by kernel_rfl) (by kernel_rfl) (by kernel_rfl) (fun _ _ _ h => h) (Or.inl ⟨by kernel_rfl, ?_⟩) (by assumption) ?_
  rotate_left
  · intro w hSw
    go_simp
    try with_reducible rfl
  simp only [Act.put, List.setIfInBounds_toArray, List.set_cons_zero, List.set_cons_succ, List.getElem_toArray, List.getElem_cons_succ, List.getElem_cons_zero]
  refine wpAnyH_take (i := 5) (v := ?_) rfl (by kernel_rfl) (by kernel_rfl) (by kernel_rfl) (fun _ _ _ h => h) (Or.inl ⟨by kernel_rfl, ?_⟩) (by assumption) ?_
  rotate_left
  · intro w hSw
    refine exec_load22 (x := .tmp 4) ?_ ?_ hSw.2.1
    · rfl
    · rfl
    try with_reducible rfl
  simp only [Act.put, List.setIfInBounds_toArray, List.set_cons_zero, List.set_cons_succ, List.getElem_toArray, List.getElem_cons_succ, List.getElem_cons_zero]
  refine wpAnyH_ready (rs := [2]) (by kernel_rfl) (by simp) ?_
  refine AllReadyH.cons rfl (fun K hK => ?_) AllReadyH.nil
  rw [if_pos (by kernel_rfl)]; go_simp; go_at_call 18; (with_reducible refine (HX.out _).mono ?_); rintro e w1 ⟨rfl, hb1⟩
  refine hK.out _ _ (hHeld.below hb1) (fun hHeld2 => ?_)
  clear hK K hHeld hb1
  have hHeld := hHeld2
  clear hHeld2
  try simp only [Act.put, List.setIfInBounds_toArray, List.set_cons_zero, List.set_cons_succ, List.getElem_toArray, List.getElem_cons_succ, List.getElem_cons_zero]
  refine wpAnyH_ready (rs := [3]) (by kernel_rfl) (by simp) ?_
  refine AllReadyH.cons rfl (fun K hK => ?_) AllReadyH.nil
  rw [if_pos (by kernel_rfl)]; go_simp; go_at_call 44; (with_reducible refine (HP1.out _ hHeld.imm).mono ?_); rintro e w1 ⟨rfl, hb1⟩
  refine hK.out _ _ (hHeld.below hb1) (fun hHeld2 => ?_)
  clear hK K hHeld hb1
  have hHeld := hHeld2
  clear hHeld2
  try simp only [Act.put, List.setIfInBounds_toArray, List.set_cons_zero, List.set_cons_succ, List.getElem_toArray, List.getElem_cons_succ, List.getElem_cons_zero]
  refine wpAnyH_ready (rs := [6]) (by kernel_rfl) (by simp) ?_
  refine AllReadyH.cons rfl (fun K hK => ?_) AllReadyH.nil
  rw [if_pos (by kernel_rfl)]; go_simp; go_at_call 18; (with_reducible refine (HY.out _).mono ?_); rintro e w1 ⟨rfl, hb1⟩
  refine hK.out _ _ (hHeld.below hb1) (fun hHeld2 => ?_)
  clear hK K hHeld hb1
  have hHeld := hHeld2
  clear hHeld2
  try simp only [Act.put, List.setIfInBounds_toArray, List.set_cons_zero, List.set_cons_succ, List.getElem_toArray, List.getElem_cons_succ, List.getElem_cons_zero]
  refine wpAnyH_ready (rs := [7]) (by kernel_rfl) (by simp) ?_
  refine AllReadyH.cons rfl (fun K hK => ?_) AllReadyH.nil
  rw [if_pos (by kernel_rfl)]; go_simp; go_at_call 44; (with_reducible refine (HP2.out _ hHeld.imm).mono ?_); rintro e w1 ⟨rfl, hb1⟩
  refine hK.out _ _ (hHeld.below hb1) (fun hHeld2 => ?_)
  clear hK K hHeld hb1
  have hHeld := hHeld2
  clear hHeld2
  try simp only [Act.put, List.setIfInBounds_toArray, List.set_cons_zero, List.set_cons_succ, List.getElem_toArray, List.getElem_cons_succ, List.getElem_cons_zero]
  refine wpAnyH_ready (rs := [8]) (by kernel_rfl) (by simp) ?_
  refine AllReadyH.cons rfl (fun K hK => ?_) AllReadyH.nil
  rw [if_pos (by kernel_rfl)]; go_simp; go_at_call 45; (with_reducible refine (HC.out _).mono ?_); rintro e w1 ⟨rfl, hb1⟩
  refine hK.out _ _ (hHeld.below hb1) (fun hHeld2 => ?_)
  clear hK K hHeld hb1
  have hHeld := hHeld2
  clear hHeld2
  try simp only [Act.put, List.setIfInBounds_toArray, List.set_cons_zero, List.set_cons_succ, List.getElem_toArray, List.getElem_cons_succ, List.getElem_cons_zero]
  refine wpAnyH_take (i := 9) (v := ?_) rfl (by kernel_rfl) (by kernel_rfl) (by kernel_rfl) (fun _ _ _ h => h) (Or.inl ⟨by kernel_rfl, ?_⟩) (by assumption) ?_
  rotate_left
  · intro w hSw
    go_simp
    try with_reducible rfl
  simp only [Act.put, List.setIfInBounds_toArray, List.set_cons_zero, List.set_cons_succ, List.getElem_toArray, List.getElem_cons_succ, List.getElem_cons_zero]
  refine wpAnyH_take (i := 10) (v := ?_) rfl (by kernel_rfl) (by kernel_rfl) (by kernel_rfl) (fun _ _ _ h => h) (Or.inl ⟨by kernel_rfl, ?_⟩) (by assumption) ?_
  rotate_left
  · intro w hSw
    go_simp
    try with_reducible rfl
  simp only [Act.put, List.setIfInBounds_toArray, List.set_cons_zero, List.set_cons_succ, List.getElem_toArray, List.getElem_cons_succ, List.getElem_cons_zero]
  refine wpAnyH_ready (rs := [11]) (by kernel_rfl) (by simp) ?_
  refine AllReadyH.cons rfl (fun K hK => ?_) AllReadyH.nil
  rw [if_pos (by kernel_rfl)]; go_simp; go_at_call 13; (with_reducible refine (HBL.out _).mono ?_); rintro e w1 ⟨rfl, hb1⟩
  refine hK.out _ _ (hHeld.below hb1) (fun hHeld2 => ?_)
  clear hK K hHeld hb1
  have hHeld := hHeld2
  clear hHeld2
  try simp only [Act.put, List.setIfInBounds_toArray, List.set_cons_zero, List.set_cons_succ, List.getElem_toArray, List.getElem_cons_succ, List.getElem_cons_zero]
  refine wpAnyH_ready (rs := [12]) (by kernel_rfl) (by simp) ?_
  refine AllReadyH.cons rfl (fun K hK => ?_) AllReadyH.nil
  rw [if_pos (by kernel_rfl)]
  obtain ⟨rv, hrv⟩ := hHeld.2.2.2.1
  have h9 := Lib.hid (hHeld.put hr hr1)
  refine wp_store22 (x := .tmp 6) (y := .tmp 20) ?_ ?_ ?_ hrv hr hr1 ?_
  · rfl
  · rfl
  · rfl
  refine hK.out _ _ h9.out.1 (fun hHeld2 => ?_)
  clear hK K hHeld hHeld2 hrv
  try simp only [Act.put, List.setIfInBounds_toArray, List.set_cons_zero, List.set_cons_succ, List.getElem_toArray, List.getElem_cons_succ, List.getElem_cons_zero]
  refine wpAnyH_done (by kernel_rfl) ?_ _
  refine NoPanic.normal ?_
  generalize World.setRow _ _ _ = W9 at h9 ⊢
  go_wp2
  exact bodyPost_ret (v := .agg r) (results_cell_row rfl _ _ _ 22 _ (0, 0) _ rfl h9.out.2.1 Try.underlying22 rfl (by rw [h9.out.2.2.1]; exact info22)) rfl ⟨rfl, h9.out.1.2.2.2.2⟩
end Go.Proofs.Ytldicconopcipaa
