/- The reference's deeds. -/
import Derived.Test.YtldicconopcipaaGd
import Derived.Test.YtldicconopcipaaGe
import Derived.Test.YtldicconopcipaaT
namespace Go.Proofs.Ytldicconopcipaa
open Go.RowKit
set_option linter.unusedVariables false
set_option linter.unusedSimpArgs false
attribute [local go_sem] Oper.semAt_some
set_option maxRecDepth 100000 in
set_option maxHeartbeats 4000000 in
theorem rdo_35 (x y : Array Value) (hx : x.size = 16) (hx1 : x.all (·.oneCell') = true) (hy : y.size = 16) (hy1 : y.all (·.oneCell') = true) (imm : Int) (w : World) :
    Calls Try.prog 12 #[.int .u8 35, .agg x, .agg y, .int .u8 imm] w fun e w' => e = .returned (.agg y) ∧ Below w.heap.size w w' := by
  have HS := Lib.hid (B3.new w x y hx hx1 hy hy1)
  go_enter Try.func12, Try.ntmps12
  go_upto_region 1 with fail
  generalize World.alloc (World.alloc (World.alloc _ _) _) _ = W1 at *
  go_upto_region 3 with fail
  refine wp_region_list ?_
  refine wpList_load22 rfl rfl rfl HS.out.2.1 ?_
  refine wpList_store22 rfl rfl rfl rfl HS.out.2.2.1 hy hy1 ?_
  simp only [Act.put, List.setIfInBounds_toArray, List.set_cons_zero, List.set_cons_succ, List.getElem_toArray, List.getElem_cons_succ, List.getElem_cons_zero]
  refine wpList_nil ?_
  have h9 := Lib.hid (HS.out.2.2.1.row hy hy1)
  have hB9 := Lib.hid (below_row (vs := y) HS.out.2.2.2 (show w.heap.size ≤ w.heap.size + 1 + 1 by omega))
  generalize World.setRow _ _ _ = W8 at *
  go_wp2
  exact bodyPost_ret (v := .agg (y)) (results_cell_row rfl _ _ _ 22 _ (0, 0) _ rfl h9.out.1 Try.underlying22 rfl (by rw [h9.out.2.1]; exact info22)) rfl ⟨rfl, hB9.out⟩
set_option maxRecDepth 100000 in
set_option maxHeartbeats 4000000 in
theorem rdo_miss (x y : Array Value) (hx : x.size = 16) (hx1 : x.all (·.oneCell') = true) (hy : y.size = 16) (hy1 : y.all (·.oneCell') = true) (imm : Int) (K : Int) (hK : (K == 35) = false ∧ (K == 36) = false ∧ (K == 37) = false ∧ (K == 38) = false ∧ (K == 39) = false) (w : World) :
    Calls Try.prog 12 #[.int .u8 K, .agg x, .agg y, .int .u8 imm] w fun e w' => e = .returned (.agg x) ∧ Below w.heap.size w w' := by
  have HS := Lib.hid (B3.new w x y hx hx1 hy hy1)
  obtain ⟨k5, k6, k7, k8, k9⟩ := hK
  go_enter Try.func12, Try.ntmps12
  go_upto_region 1 with fail
  generalize World.alloc (World.alloc (World.alloc _ _) _) _ = W1 at *
  go_upto_region 22 with fail
  refine wp_region_list ?_
  refine wpList_load22 rfl rfl rfl HS.out.1 ?_
  refine wpList_store22 rfl rfl rfl rfl HS.out.2.2.1 hx hx1 ?_
  simp only [Act.put, List.setIfInBounds_toArray, List.set_cons_zero, List.set_cons_succ, List.getElem_toArray, List.getElem_cons_succ, List.getElem_cons_zero]
  refine wpList_nil ?_
  have h9 := Lib.hid (HS.out.2.2.1.row hx hx1)
  have hB9 := Lib.hid (below_row (vs := x) HS.out.2.2.2 (show w.heap.size ≤ w.heap.size + 1 + 1 by omega))
  generalize World.setRow _ _ _ = W8 at *
  go_wp2
  exact bodyPost_ret (v := .agg (x)) (results_cell_row rfl _ _ _ 22 _ (0, 0) _ rfl h9.out.1 Try.underlying22 rfl (by rw [h9.out.2.1]; exact info22)) rfl ⟨rfl, hB9.out⟩
set_option maxRecDepth 100000 in
set_option maxHeartbeats 4000000 in
theorem rdo_37 (x y r : Array Value) (hx : x.size = 16) (hx1 : x.all (·.oneCell') = true) (hy : y.size = 16) (hy1 : y.all (·.oneCell') = true) (hr : r.size = 16) (hr1 : r.all (·.oneCell') = true) (imm : Int) (hC : ∀ W, Calls Try.prog 21 #[.agg x, .agg y] W fun e w' => e = .returned (.agg r) ∧ Below W.heap.size W w') (w : World) :
    Calls Try.prog 12 #[.int .u8 37, .agg x, .agg y, .int .u8 imm] w fun e w' => e = .returned (.agg r) ∧ Below w.heap.size w w' := by
  have HS := Lib.hid (B3.new w x y hx hx1 hy hy1)
  have HC := Lib.hid hC
  clear hC
  go_enter Try.func12, Try.ntmps12
  go_upto_region 1 with fail
  generalize World.alloc (World.alloc (World.alloc _ _) _) _ = W1 at *
  go_upto_region 11 with fail
  refine wp_region_list ?_
  refine wpList_load22 rfl rfl rfl HS.out.1 ?_
  refine wpList_load22 rfl rfl rfl HS.out.2.1 ?_
  go_wp2_with fail
  go_at_call 21
  (with_reducible refine (HC.out _).mono ?_)
  rintro e w2 ⟨rfl, hb2⟩
  have HS2 := Lib.hid (HS.out.keep hb2)
  clear HS hb2
  go_wp2_with (refine wpList_store22 rfl rfl rfl rfl HS2.out.2.2.1 hr hr1 ?_)
  have h9 := Lib.hid (HS2.out.2.2.1.row hr hr1)
  have hB9 := Lib.hid (below_row (vs := r) HS2.out.2.2.2 (show w.heap.size ≤ w.heap.size + 1 + 1 by omega))
  generalize World.setRow _ _ _ = W8 at *
  go_wp2
  exact bodyPost_ret (v := .agg (r)) (results_cell_row rfl _ _ _ 22 _ (0, 0) _ rfl h9.out.1 Try.underlying22 rfl (by rw [h9.out.2.1]; exact info22)) rfl ⟨rfl, hB9.out⟩
set_option maxRecDepth 100000 in
set_option maxHeartbeats 4000000 in
theorem rdo_38 (x y r : Array Value) (hx : x.size = 16) (hx1 : x.all (·.oneCell') = true) (hy : y.size = 16) (hy1 : y.all (·.oneCell') = true) (hr : r.size = 16) (hr1 : r.all (·.oneCell') = true) (imm : Int) (hC : ∀ W, Calls Try.prog 22 #[.agg x, .agg y] W fun e w' => e = .returned (.agg r) ∧ Below W.heap.size W w') (w : World) :
    Calls Try.prog 12 #[.int .u8 38, .agg x, .agg y, .int .u8 imm] w fun e w' => e = .returned (.agg r) ∧ Below w.heap.size w w' := by
  have HS := Lib.hid (B3.new w x y hx hx1 hy hy1)
  have HC := Lib.hid hC
  clear hC
  go_enter Try.func12, Try.ntmps12
  go_upto_region 1 with fail
  generalize World.alloc (World.alloc (World.alloc _ _) _) _ = W1 at *
  go_upto_region 13 with fail
  refine wp_region_list ?_
  refine wpList_load22 rfl rfl rfl HS.out.1 ?_
  refine wpList_load22 rfl rfl rfl HS.out.2.1 ?_
  go_wp2_with fail
  go_at_call 22
  (with_reducible refine (HC.out _).mono ?_)
  rintro e w2 ⟨rfl, hb2⟩
  have HS2 := Lib.hid (HS.out.keep hb2)
  clear HS hb2
  go_wp2_with (refine wpList_store22 rfl rfl rfl rfl HS2.out.2.2.1 hr hr1 ?_)
  have h9 := Lib.hid (HS2.out.2.2.1.row hr hr1)
  have hB9 := Lib.hid (below_row (vs := r) HS2.out.2.2.2 (show w.heap.size ≤ w.heap.size + 1 + 1 by omega))
  generalize World.setRow _ _ _ = W8 at *
  go_wp2
  exact bodyPost_ret (v := .agg (r)) (results_cell_row rfl _ _ _ 22 _ (0, 0) _ rfl h9.out.1 Try.underlying22 rfl (by rw [h9.out.2.1]; exact info22)) rfl ⟨rfl, hB9.out⟩
set_option maxRecDepth 100000 in
set_option maxHeartbeats 1000000 in
theorem rdo_36 (f g : Nat → Int) (i : Int) (w : World) :
    Calls Try.prog 12 #[.int .u8 36, .agg (bA f), .agg (bA g), .int .u8 i] w fun e w' => e = .returned (.agg (bA (xF f g))) ∧ Below w.heap.size w w' := by
  have h5 := ((R16.new w (bA f) (bA_size f) (bA_one f)).alloc (.cells (bA g) 22)).alloc (.cells #[.int .u8 0, .int .u8 0, .int .u8 0, .int .u8 0, .int .u8 0, .int .u8 0, .int .u8 0, .int .u8 0, .int .u8 0, .int .u8 0, .int .u8 0, .int .u8 0, .int .u8 0, .int .u8 0, .int .u8 0, .int .u8 0] 22)
  have h6 := (R16.new (w.alloc (.cells (bA f) 22)) (bA g) (bA_size g) (bA_one g)).alloc (.cells #[.int .u8 0, .int .u8 0, .int .u8 0, .int .u8 0, .int .u8 0, .int .u8 0, .int .u8 0, .int .u8 0, .int .u8 0, .int .u8 0, .int .u8 0, .int .u8 0, .int .u8 0, .int .u8 0, .int .u8 0, .int .u8 0] 22)
  have h8 := R16.newz ((w.alloc (.cells (bA f) 22)).alloc (.cells (bA g) 22))
  have hB := (((Below.refl _ w).alloc (Nat.le_refl _) (.cells (bA f) 22)).alloc (by simp) (.cells (bA g) 22)).alloc (by simp; omega) (.cells #[.int .u8 0, .int .u8 0, .int .u8 0, .int .u8 0, .int .u8 0, .int .u8 0, .int .u8 0, .int .u8 0, .int .u8 0, .int .u8 0, .int .u8 0, .int .u8 0, .int .u8 0, .int .u8 0, .int .u8 0, .int .u8 0] 22)
  simp only [World.size_alloc] at h5 h6 h8
  have HS : Hid (XS w f g 0 (((w.alloc (.cells (bA f) 22)).alloc (.cells (bA g) 22)).alloc (.cells #[.int .u8 0, .int .u8 0, .int .u8 0, .int .u8 0, .int .u8 0, .int .u8 0, .int .u8 0, .int .u8 0, .int .u8 0, .int .u8 0, .int .u8 0, .int .u8 0, .int .u8 0, .int .u8 0, .int .u8 0, .int .u8 0] 22))) := Lib.hid ⟨h5, h6, h8, hB⟩
  clear h5 h6 h8 hB
  go_enter Try.func12, Try.ntmps12
  go_upto_region 1 with fail
  generalize World.alloc (World.alloc (World.alloc _ _) _) _ = W1 at *
  go_wp2_with fail
  go_loopw [9] (fun i W => ∃ k : Nat, k ≤ 16 ∧ i = .int .i64 k ∧ XS w f g k W) (fun i _ => 16 - (intOf i).toNat)
  case atStart => exact ⟨0, by omega, rfl, HS.out⟩
  case round =>
    obtain ⟨k, hk, rfl, hX⟩ := hrel
    have hS := Lib.hid hX
    clear hX
    by_cases hk16 : k < 16
    · go_upto_region 8 with fail
      have c0 := RB.cell hS.out.1 k hk16
      simp only [Nat.lt_irrefl, if_false] at c0
      have f0 := RB.froz hS.out.1 k
      have d0 := RB.cell hS.out.2.1 k hk16
      go_region
      have hS2 : Hid (XS w f g (k + 1) _) := Lib.hid (hS.out.next hk16).drew
      clear c0 f0 d0 hS
      simp only [xF] at hS2
      generalize World.drew _ = W5 at hS2 ⊢
      go_wp2
      exact ⟨⟨k + 1, by omega, by simp, hS2.out⟩, by simp [intOf]; omega⟩
    · obtain rfl : k = 16 := by omega
      have h5 := hS.out.1
      have h8 := hS.out.2.2.1
      rw [bA_congr (fun j hj => show (if j < 16 then xF f g j else f j) = xF f g j from if_pos hj)] at h5
      go_wp2_with (first | (refine wpList_load22 rfl rfl rfl h5 ?_) | (refine wpList_store22 rfl rfl rfl rfl h8 (bA_size _) (bA_one _) ?_))
      simp only [Act.put, List.setIfInBounds_toArray, List.set_cons_zero, List.set_cons_succ, List.getElem_toArray, List.getElem_cons_succ, List.getElem_cons_zero]
      have h9 := Lib.hid (h8.row (bA_size (xF f g)) (bA_one (xF f g)))
      have hB9 := Lib.hid (below_row (vs := bA (xF f g)) hS.out.2.2.2 (show w.heap.size ≤ w.heap.size + 1 + 1 by omega))
      clear hS h5 h8
      generalize World.setRow _ _ _ = W2 at *
      exact bodyPost_ret (v := .agg (bA (xF f g))) (results_cell_row rfl _ _ _ 22 _ (0, 0) _ rfl h9.out.1 Try.underlying22 rfl (by rw [h9.out.2.1]; exact info22)) rfl ⟨rfl, hB9.out⟩
set_option maxRecDepth 100000 in
set_option maxHeartbeats 4000000 in
theorem rdo_39 (x y r : Array Value) (hx : x.size = 16) (hx1 : x.all (·.oneCell') = true) (hy : y.size = 16) (hy1 : y.all (·.oneCell') = true) (hr : r.size = 16) (hr1 : r.all (·.oneCell') = true) (imm : Int) (x0 x1 y0 y1 p1 p2 lo hi : Int) (s1 s2 : Bool) (g1 : (bits .and .u8 imm 1 == 1) = s1) (g2 : (bits .and .u8 (imm / 16) 1 == 1) = s2) (e1 : (if s1 then x1 else x0) = p1) (e2 : (if s2 then y1 else y0) = p2)
    (hX : ∀ W, Calls Try.prog 10 #[.agg x] W fun e w' => e = .returned (.tuple #[.int .u64 x0, .int .u64 x1]) ∧ Below W.heap.size W w') (hY : ∀ W, Calls Try.prog 10 #[.agg y] W fun e w' => e = .returned (.tuple #[.int .u64 y0, .int .u64 y1]) ∧ Below W.heap.size W w')
    (hM : ∀ W, Calls Try.prog 17 #[.int .u64 p1, .int .u64 p2] W fun e w' => e = .returned (.tuple #[.int .u64 lo, .int .u64 hi]) ∧ Below W.heap.size W w') (hB : ∀ W, Calls Try.prog 14 #[.int .u64 lo, .int .u64 hi] W fun e w' => e = .returned (.agg r) ∧ Below W.heap.size W w') (hi0 : 0 ≤ imm) (hi1 : imm < 256) (w : World) :
    Calls Try.prog 12 #[.int .u8 39, .agg x, .agg y, .int .u8 imm] w fun e w' => e = .returned (.agg r) ∧ Below w.heap.size w w' := by
  have HS := Lib.hid (B3.new w x y hx hx1 hy hy1)
  have GX := Lib.hid hX
  have GY := Lib.hid hY
  have GM := Lib.hid hM
  have GB := Lib.hid hB
  clear hX hY hM hB
  cases s1 <;> cases s2
  all_goals
    simp only [Bool.false_eq_true, if_false, if_true] at e1 e2
    subst e1 e2
    go_enter Try.func12, Try.ntmps12
    go_upto_region 1 with fail
    generalize World.alloc (World.alloc (World.alloc _ _) _) _ = W1 at *
    go_upto_region 15 with fail
    refine wp_region_list ?_
    refine wpList_load22 rfl rfl rfl HS.out.1 ?_
    go_wp2_with fail
    go_at_call 10
    (with_reducible refine (GX.out _).mono ?_)
    rintro e w2 ⟨rfl, hb2⟩
    have HS2 := Lib.hid (HS.out.keep hb2)
    clear HS hb2
    go_upto_region 18 with fail
    refine wp_region_list ?_
    refine wpList_load22 rfl rfl rfl HS2.out.2.1 ?_
    go_wp2_with fail
    go_at_call 10
    (with_reducible refine (GY.out _).mono ?_)
    rintro e w3 ⟨rfl, hb3⟩
    have HS3 := Lib.hid (HS2.out.keep hb3)
    clear HS2 hb3
    go_wp2_with fail
    go_at_call 17
    (with_reducible refine (GM.out _).mono ?_)
    rintro e w4 ⟨rfl, hb4⟩
    have HS4 := Lib.hid (HS3.out.keep hb4)
    clear HS3 hb4
    go_wp2_with fail
    go_at_call 14
    (with_reducible refine (GB.out _).mono ?_)
    rintro e w5 ⟨rfl, hb5⟩
    have HS5 := Lib.hid (HS4.out.keep hb5)
    clear HS4 hb5
    go_wp2_with (refine wpList_store22 rfl rfl rfl rfl HS5.out.2.2.1 hr hr1 ?_)
    have h9 := Lib.hid (HS5.out.2.2.1.row hr hr1)
    have hB9 := Lib.hid (below_row (vs := r) HS5.out.2.2.2 (show w.heap.size ≤ w.heap.size + 1 + 1 by omega))
    generalize World.setRow _ _ _ = W8 at *
    go_wp2
    exact bodyPost_ret (v := .agg (r)) (results_cell_row rfl _ _ _ 22 _ (0, 0) _ rfl h9.out.1 Try.underlying22 rfl (by rw [h9.out.2.1]; exact info22)) rfl ⟨rfl, hB9.out⟩
end Go.Proofs.Ytldicconopcipaa
