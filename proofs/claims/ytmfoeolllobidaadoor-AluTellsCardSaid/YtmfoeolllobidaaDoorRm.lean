/- The document's own products. -/
import Derived.Test.YtmfoeolllobidaaDoorInc
import Derived.Test.YtmfoeolllobidaaDoorMuls
import Derived.Deep.DeepCutAuto
namespace Go.Proofs.YtmfoeolllobidaaDoor
open Go.RowKit Go.Shelf
set_option linter.unusedSimpArgs false
set_option linter.unusedVariables false
attribute [local go_sem] Oper.semAt_some
set_option maxRecDepth 100000 in
set_option maxHeartbeats 2000000 in
theorem rmul_core_a (a b A B H Lw low high : Nat) (HV : Int) (wd : Int) (Z S P HB : Bool) (hw : wd < 1)
    (hA : ∀ W, Calls Tryd.prog 29 #[.int .u64 (a : Int), .int .i64 wd] W fun e w' => e = .returned (.int .u64 (A : Int)) ∧ W = w')
    (hB : ∀ W, Calls Tryd.prog 29 #[.int .u64 (b : Int), .int .i64 wd] W fun e w' => e = .returned (.int .u64 (B : Int)) ∧ W = w')
    (hmul : ∀ W, Calls Tryd.prog 47 #[.int .u64 (A : Int), .int .u64 (B : Int)] W fun e w' => e = .returned (.tuple #[.int .u64 (H : Int), .int .u64 (Lw : Int)]) ∧ W = w')
    (hlw : ∀ W, Calls Tryd.prog 29 #[.int .u64 (Lw : Int), .int .i64 wd] W fun e w' => e = .returned (.int .u64 (low : Int)) ∧ W = w')
    (hhi : ∀ W, Calls Tryd.prog 29 #[.int .u64 (HV : Int), .int .i64 wd] W fun e w' => e = .returned (.int .u64 (high : Int)) ∧ W = w')
    (hHV : bits .or .u64 ((Lw : Int) / 256) (IntKind.u64.wrap ((H : Int) * 72057594037927936)) = HV)
    (hlo : ∀ W, Calls Tryd.prog 13 #[.int .i64 wd, .int .u64 (low : Int)] W fun e w' => e = .returned (fl false Z S false P) ∧ Below W.heap.size W w')
    (hHB : ((high : Int) != 0) = HB) (w : World) :
    Calls Tryd.prog 25 #[.int .i64 wd, .int .u64 a, .int .u64 b] w fun e w' => e = .returned (.tuple #[.int .u64 (low : Nat), .int .u64 (high : Nat), fl HB Z S HB P]) ∧ Below w.heap.size w w' := by
  have HA := Lib.hid hA
  have HMUL := Lib.hid hmul
  have HLW := Lib.hid hlw
  have HHI := Lib.hid hhi
  have HLO := Lib.hid hlo
  have HB2 := Lib.hid hB
  have HHB := Lib.hid hHB
  clear hA hB hmul hlw hhi hlo hHB
  have hF := Lib.hid (F5.new w false false false false false)
  go_enter Tryd.func25, Tryd.ntmps25
  go_wp2_with (first | (go_at_call 29; (with_reducible refine (HA.out _).mono ?_); rintro e w1 ⟨rfl, rfl⟩) | (go_at_call 29; (with_reducible refine (HB2.out _).mono ?_); rintro e w1 ⟨rfl, rfl⟩) | (go_at_call 47; (with_reducible refine (HMUL.out _).mono ?_); rintro e w1 ⟨rfl, rfl⟩) | (go_at_call 29; (with_reducible refine (HLW.out _).mono ?_); rintro e w1 ⟨rfl, rfl⟩) | (go_at_call 29; (with_reducible refine (HHI.out _).mono ?_); rintro e w1 ⟨rfl, rfl⟩))
  all_goals
    go_at_call 13
    refine (HLO.out _).mono ?_
    rintro e w1 ⟨rfl, hb⟩
    have hR1 := hF.out.keep hb
    have hsz := hb.size
    simp only [World.size_alloc] at hsz
    have h2 := F5.new w1 false Z S false P
    have h3 := hR1.alloc (Obj.cells #[.bool false, .bool Z, .bool S, .bool false, .bool P] 24)
    have h4 := (((Below.refl _ w).alloc (Nat.le_refl _) fl0).trans (hb.mono (by simp))).alloc (show w.heap.size ≤ w1.heap.size by omega) (Obj.cells #[.bool false, .bool Z, .bool S, .bool false, .bool P] 24)
    have H2 := Lib.hid h2
    have H3 := Lib.hid h3
    have H4 := Lib.hid h4
    clear hR1 h2 h3 h4 hb
    go_upto_region 8 with fail
    generalize World.alloc _ _ = W2 at H2 H3 H4 ⊢
    obtain ⟨c0, c1, c2, c3, c4⟩ := H2.out.c
    obtain ⟨d0, d1, d2, d3, d4⟩ := H2.out.f
    have hR : Hid (Rt w (w1.heap.size) HB Z S HB P (w.heap.size) ((W2.setCell ⟨w1.heap.size, 0, none⟩ (.bool HB)).setCell ⟨w1.heap.size, 3, none⟩ (.bool HB))) := Lib.hid ⟨H2.out.set0.set3, ⟨_, _, _, _, _, (H3.out.far (by omega)).far (by omega)⟩, (H4.out.setCell (p := ⟨w1.heap.size, 0, none⟩) (show w.heap.size ≤ w1.heap.size by omega) _).setCell (p := ⟨w1.heap.size, 3, none⟩) (show w.heap.size ≤ w1.heap.size by omega) _⟩
    have hhb := HHB.out
    go_wp2
    clear c0 c1 c2 c3 c4 d0 d1 d2 d3 d4 hhb
    generalize World.setCell (World.setCell _ _ _) _ _ = W3 at hR ⊢
    refine wp_region_noPanic ?_
    refine wp_region_held_drew (S := fun W => Rt w (w1.heap.size) HB Z S HB P (w.heap.size) W) (by kernel_rfl) ?_ (fun hHeld => ?_)
    · exact hR.out.drew
    generalize World.drew _ = W4 at hHeld ⊢
    refine wpAnyH_take (i := 0) (v := ?_) rfl (by kernel_rfl) (by kernel_rfl) (by kernel_rfl) (fun _ _ _ h => h) (Or.inl ⟨by kernel_rfl, ?_⟩) (by assumption) ?_
    rotate_left
    · intro w hSw
      go_simp
      try with_reducible rfl
    simp only [Act.put, List.setIfInBounds_toArray, List.set_cons_zero, List.set_cons_succ, List.getElem_toArray, List.getElem_cons_succ, List.getElem_cons_zero]
    refine wpAnyH_take (i := 1) (v := ?_) rfl (by kernel_rfl) (by kernel_rfl) (by kernel_rfl) (fun _ _ _ h => h) (Or.inl ⟨by kernel_rfl, ?_⟩) (by assumption) ?_
    rotate_left
    · intro w hSw
      go_simp
      try with_reducible rfl
    simp only [Act.put, List.setIfInBounds_toArray, List.set_cons_zero, List.set_cons_succ, List.getElem_toArray, List.getElem_cons_succ, List.getElem_cons_zero]
    refine wpAnyH_take (i := 2) (v := ?_) rfl (by kernel_rfl) (by kernel_rfl) (by kernel_rfl) (fun _ _ _ h => h) (Or.inl ⟨by kernel_rfl, ?_⟩) (by assumption) ?_
    rotate_left
    · intro w hSw
      obtain ⟨g0, g1, g2, g3, g4⟩ := hSw.1.c
      go_simp
      try with_reducible rfl
    simp only [Act.put, List.setIfInBounds_toArray, List.set_cons_zero, List.set_cons_succ, List.getElem_toArray, List.getElem_cons_succ, List.getElem_cons_zero]
    refine wpAnyH_ready (rs := [3]) (by kernel_rfl) (by simp) ?_
    refine AllReadyH.cons rfl (fun K hK => ?_) AllReadyH.nil
    go_simp
    refine hK.out _ _ hHeld (fun hHeld2 => ?_)
    clear hK K hHeld
    have hHeld := hHeld2
    clear hHeld2
    try simp only [Act.put, List.setIfInBounds_toArray, List.set_cons_zero, List.set_cons_succ, List.getElem_toArray, List.getElem_cons_succ, List.getElem_cons_zero]
    refine wpAnyH_ready (rs := [4]) (by kernel_rfl) (by simp) ?_
    refine AllReadyH.cons rfl (fun K hK => ?_) AllReadyH.nil
    go_simp
    refine hK.out _ _ hHeld (fun hHeld2 => ?_)
    clear hK K hHeld
    have hHeld := hHeld2
    clear hHeld2
    try simp only [Act.put, List.setIfInBounds_toArray, List.set_cons_zero, List.set_cons_succ, List.getElem_toArray, List.getElem_cons_succ, List.getElem_cons_zero]
    refine wpAnyH_ready (rs := [5]) (by kernel_rfl) (by simp) ?_
    refine AllReadyH.cons rfl (fun K hK => ?_) AllReadyH.nil
    obtain ⟨y0, y1, y2, y3, y4, hy⟩ := hHeld.2.1
    obtain ⟨g0, g1, g2, g3, g4⟩ := hy.c
    obtain ⟨f0, f1, f2, f3, f4⟩ := hy.f
    go_simp
    have h9 := Lib.hid (hHeld.put (Nat.le_refl _))
    refine hK.out _ _ h9.out.1 (fun hHeld2 => ?_)
    clear hK K hHeld hHeld2 g0 g1 g2 g3 g4 f0 f1 f2 f3 f4 hy
    try simp only [Act.put, List.setIfInBounds_toArray, List.set_cons_zero, List.set_cons_succ, List.getElem_toArray, List.getElem_cons_succ, List.getElem_cons_zero]
    refine wpAnyH_done (by kernel_rfl) ?_ _
    refine NoPanic.normal ?_
    generalize World.setCell (World.setCell (World.setCell (World.setCell (World.setCell _ _ _) _ _) _ _) _ _) _ _ = W9 at h9 ⊢
    obtain ⟨⟨_, _, hbl⟩, hF⟩ := h9.out
    obtain ⟨g0, g1, g2, g3, g4⟩ := hF.c
    clear h9
    go_wp2
    exact bodyPost_ret (v := .tuple #[.int .u64 (low : Nat), .int .u64 (high : Nat), fl HB Z S HB P]) (by simp [results, Tryd.results25, go_sem, *]) rfl ⟨rfl, hbl⟩
set_option maxRecDepth 100000 in
set_option maxHeartbeats 2000000 in
theorem rmul_core_m (a b A B H Lw low high : Nat) (HV : Int) (wd : Int) (Z S P HB : Bool) (hw1 : ¬ wd < 1) (hw2 : wd < 8)
    (hA : ∀ W, Calls Tryd.prog 29 #[.int .u64 (a : Int), .int .i64 wd] W fun e w' => e = .returned (.int .u64 (A : Int)) ∧ W = w')
    (hB : ∀ W, Calls Tryd.prog 29 #[.int .u64 (b : Int), .int .i64 wd] W fun e w' => e = .returned (.int .u64 (B : Int)) ∧ W = w')
    (hmul : ∀ W, Calls Tryd.prog 47 #[.int .u64 (A : Int), .int .u64 (B : Int)] W fun e w' => e = .returned (.tuple #[.int .u64 (H : Int), .int .u64 (Lw : Int)]) ∧ W = w')
    (hlw : ∀ W, Calls Tryd.prog 29 #[.int .u64 (Lw : Int), .int .i64 wd] W fun e w' => e = .returned (.int .u64 (low : Int)) ∧ W = w')
    (hhi : ∀ W, Calls Tryd.prog 29 #[.int .u64 (HV : Int), .int .i64 wd] W fun e w' => e = .returned (.int .u64 (high : Int)) ∧ W = w')
    (hHV : bits .or .u64 ((Lw : Int) / 2 ^ (8 * wd).toNat) (IntKind.u64.wrap ((H : Int) * 2 ^ (64 - 8 * wd).toNat)) = HV)
    (hlo : ∀ W, Calls Tryd.prog 13 #[.int .i64 wd, .int .u64 (low : Int)] W fun e w' => e = .returned (fl false Z S false P) ∧ Below W.heap.size W w')
    (hHB : ((high : Int) != 0) = HB) (w : World) :
    Calls Tryd.prog 25 #[.int .i64 wd, .int .u64 a, .int .u64 b] w fun e w' => e = .returned (.tuple #[.int .u64 (low : Nat), .int .u64 (high : Nat), fl HB Z S HB P]) ∧ Below w.heap.size w w' := by
  have HA := Lib.hid hA
  have HMUL := Lib.hid hmul
  have HLW := Lib.hid hlw
  have HHI := Lib.hid hhi
  have HLO := Lib.hid hlo
  have HB2 := Lib.hid hB
  have HHB := Lib.hid hHB
  clear hA hB hmul hlw hhi hlo hHB
  have hw3 : ¬ 8 < wd := by omega
  have hF := Lib.hid (F5.new w false false false false false)
  go_enter Tryd.func25, Tryd.ntmps25
  go_wp2_with (first | (go_at_call 29; (with_reducible refine (HA.out _).mono ?_); rintro e w1 ⟨rfl, rfl⟩) | (go_at_call 29; (with_reducible refine (HB2.out _).mono ?_); rintro e w1 ⟨rfl, rfl⟩) | (go_at_call 47; (with_reducible refine (HMUL.out _).mono ?_); rintro e w1 ⟨rfl, rfl⟩) | (go_at_call 29; (with_reducible refine (HLW.out _).mono ?_); rintro e w1 ⟨rfl, rfl⟩) | (go_at_call 29; (with_reducible refine (HHI.out _).mono ?_); rintro e w1 ⟨rfl, rfl⟩))
  all_goals
    go_at_call 13
    refine (HLO.out _).mono ?_
    rintro e w1 ⟨rfl, hb⟩
    have hR1 := hF.out.keep hb
    have hsz := hb.size
    simp only [World.size_alloc] at hsz
    have h2 := F5.new w1 false Z S false P
    have h3 := hR1.alloc (Obj.cells #[.bool false, .bool Z, .bool S, .bool false, .bool P] 24)
    have h4 := (((Below.refl _ w).alloc (Nat.le_refl _) fl0).trans (hb.mono (by simp))).alloc (show w.heap.size ≤ w1.heap.size by omega) (Obj.cells #[.bool false, .bool Z, .bool S, .bool false, .bool P] 24)
    have H2 := Lib.hid h2
    have H3 := Lib.hid h3
    have H4 := Lib.hid h4
    clear hR1 h2 h3 h4 hb
    go_upto_region 8 with fail
    generalize World.alloc _ _ = W2 at H2 H3 H4 ⊢
    obtain ⟨c0, c1, c2, c3, c4⟩ := H2.out.c
    obtain ⟨d0, d1, d2, d3, d4⟩ := H2.out.f
    have hR : Hid (Rt w (w1.heap.size) HB Z S HB P (w.heap.size) ((W2.setCell ⟨w1.heap.size, 0, none⟩ (.bool HB)).setCell ⟨w1.heap.size, 3, none⟩ (.bool HB))) := Lib.hid ⟨H2.out.set0.set3, ⟨_, _, _, _, _, (H3.out.far (by omega)).far (by omega)⟩, (H4.out.setCell (p := ⟨w1.heap.size, 0, none⟩) (show w.heap.size ≤ w1.heap.size by omega) _).setCell (p := ⟨w1.heap.size, 3, none⟩) (show w.heap.size ≤ w1.heap.size by omega) _⟩
    have hhb := HHB.out
    go_wp2
    clear c0 c1 c2 c3 c4 d0 d1 d2 d3 d4 hhb
    generalize World.setCell (World.setCell _ _ _) _ _ = W3 at hR ⊢
    refine wp_region_noPanic ?_
    refine wp_region_held_drew (S := fun W => Rt w (w1.heap.size) HB Z S HB P (w.heap.size) W) (by kernel_rfl) ?_ (fun hHeld => ?_)
    · exact hR.out.drew
    generalize World.drew _ = W4 at hHeld ⊢
    refine wpAnyH_take (i := 0) (v := ?_) rfl (by kernel_rfl) (by kernel_rfl) (by kernel_rfl) (fun _ _ _ h => h) (Or.inl ⟨by kernel_rfl, ?_⟩) (by assumption) ?_
    rotate_left
    · intro w hSw
      go_simp
      try with_reducible rfl
    simp only [Act.put, List.setIfInBounds_toArray, List.set_cons_zero, List.set_cons_succ, List.getElem_toArray, List.getElem_cons_succ, List.getElem_cons_zero]
    refine wpAnyH_take (i := 1) (v := ?_) rfl (by kernel_rfl) (by kernel_rfl) (by kernel_rfl) (fun _ _ _ h => h) (Or.inl ⟨by kernel_rfl, ?_⟩) (by assumption) ?_
    rotate_left
    · intro w hSw
      go_simp
      try with_reducible rfl
    simp only [Act.put, List.setIfInBounds_toArray, List.set_cons_zero, List.set_cons_succ, List.getElem_toArray, List.getElem_cons_succ, List.getElem_cons_zero]
    refine wpAnyH_take (i := 2) (v := ?_) rfl (by kernel_rfl) (by kernel_rfl) (by kernel_rfl) (fun _ _ _ h => h) (Or.inl ⟨by kernel_rfl, ?_⟩) (by assumption) ?_
    rotate_left
    · intro w hSw
      obtain ⟨g0, g1, g2, g3, g4⟩ := hSw.1.c
      go_simp
      try with_reducible rfl
    simp only [Act.put, List.setIfInBounds_toArray, List.set_cons_zero, List.set_cons_succ, List.getElem_toArray, List.getElem_cons_succ, List.getElem_cons_zero]
    refine wpAnyH_ready (rs := [3]) (by kernel_rfl) (by simp) ?_
    refine AllReadyH.cons rfl (fun K hK => ?_) AllReadyH.nil
    go_simp
    refine hK.out _ _ hHeld (fun hHeld2 => ?_)
    clear hK K hHeld
    have hHeld := hHeld2
    clear hHeld2
    try simp only [Act.put, List.setIfInBounds_toArray, List.set_cons_zero, List.set_cons_succ, List.getElem_toArray, List.getElem_cons_succ, List.getElem_cons_zero]
    refine wpAnyH_ready (rs := [4]) (by kernel_rfl) (by simp) ?_
    refine AllReadyH.cons rfl (fun K hK => ?_) AllReadyH.nil
    go_simp
    refine hK.out _ _ hHeld (fun hHeld2 => ?_)
    clear hK K hHeld
    have hHeld := hHeld2
    clear hHeld2
    try simp only [Act.put, List.setIfInBounds_toArray, List.set_cons_zero, List.set_cons_succ, List.getElem_toArray, List.getElem_cons_succ, List.getElem_cons_zero]
    refine wpAnyH_ready (rs := [5]) (by kernel_rfl) (by simp) ?_
    refine AllReadyH.cons rfl (fun K hK => ?_) AllReadyH.nil
    obtain ⟨y0, y1, y2, y3, y4, hy⟩ := hHeld.2.1
    obtain ⟨g0, g1, g2, g3, g4⟩ := hy.c
    obtain ⟨f0, f1, f2, f3, f4⟩ := hy.f
    go_simp
    have h9 := Lib.hid (hHeld.put (Nat.le_refl _))
    refine hK.out _ _ h9.out.1 (fun hHeld2 => ?_)
    clear hK K hHeld hHeld2 g0 g1 g2 g3 g4 f0 f1 f2 f3 f4 hy
    try simp only [Act.put, List.setIfInBounds_toArray, List.set_cons_zero, List.set_cons_succ, List.getElem_toArray, List.getElem_cons_succ, List.getElem_cons_zero]
    refine wpAnyH_done (by kernel_rfl) ?_ _
    refine NoPanic.normal ?_
    generalize World.setCell (World.setCell (World.setCell (World.setCell (World.setCell _ _ _) _ _) _ _) _ _) _ _ = W9 at h9 ⊢
    obtain ⟨⟨_, _, hbl⟩, hF⟩ := h9.out
    obtain ⟨g0, g1, g2, g3, g4⟩ := hF.c
    clear h9
    go_wp2
    exact bodyPost_ret (v := .tuple #[.int .u64 (low : Nat), .int .u64 (high : Nat), fl HB Z S HB P]) (by simp [results, Tryd.results25, go_sem, *]) rfl ⟨rfl, hbl⟩
set_option maxRecDepth 100000 in
set_option maxHeartbeats 2000000 in
theorem rmul_core_z (a b A B H Lw low high : Nat) (HV : Int) (wd : Int) (Z S P HB : Bool) (hw : 8 ≤ wd)
    (hA : ∀ W, Calls Tryd.prog 29 #[.int .u64 (a : Int), .int .i64 wd] W fun e w' => e = .returned (.int .u64 (A : Int)) ∧ W = w')
    (hB : ∀ W, Calls Tryd.prog 29 #[.int .u64 (b : Int), .int .i64 wd] W fun e w' => e = .returned (.int .u64 (B : Int)) ∧ W = w')
    (hmul : ∀ W, Calls Tryd.prog 47 #[.int .u64 (A : Int), .int .u64 (B : Int)] W fun e w' => e = .returned (.tuple #[.int .u64 (H : Int), .int .u64 (Lw : Int)]) ∧ W = w')
    (hlw : ∀ W, Calls Tryd.prog 29 #[.int .u64 (Lw : Int), .int .i64 wd] W fun e w' => e = .returned (.int .u64 (low : Int)) ∧ W = w')
    (hhi : ∀ W, Calls Tryd.prog 29 #[.int .u64 (H : Int), .int .i64 wd] W fun e w' => e = .returned (.int .u64 (high : Int)) ∧ W = w')
    (hlo : ∀ W, Calls Tryd.prog 13 #[.int .i64 wd, .int .u64 (low : Int)] W fun e w' => e = .returned (fl false Z S false P) ∧ Below W.heap.size W w')
    (hHB : ((high : Int) != 0) = HB) (w : World) :
    Calls Tryd.prog 25 #[.int .i64 wd, .int .u64 a, .int .u64 b] w fun e w' => e = .returned (.tuple #[.int .u64 (low : Nat), .int .u64 (high : Nat), fl HB Z S HB P]) ∧ Below w.heap.size w w' := by
  have HA := Lib.hid hA
  have HMUL := Lib.hid hmul
  have HLW := Lib.hid hlw
  have HHI := Lib.hid hhi
  have HLO := Lib.hid hlo
  have HB2 := Lib.hid hB
  have HHB := Lib.hid hHB
  clear hA hB hmul hlw hhi hlo hHB
  have hw1 : ¬ wd < 1 := by omega
  have hw2 : ¬ wd < 8 := by omega
  clear hw
  have hF := Lib.hid (F5.new w false false false false false)
  go_enter Tryd.func25, Tryd.ntmps25
  go_wp2_with (first | (go_at_call 29; (with_reducible refine (HA.out _).mono ?_); rintro e w1 ⟨rfl, rfl⟩) | (go_at_call 29; (with_reducible refine (HB2.out _).mono ?_); rintro e w1 ⟨rfl, rfl⟩) | (go_at_call 47; (with_reducible refine (HMUL.out _).mono ?_); rintro e w1 ⟨rfl, rfl⟩) | (go_at_call 29; (with_reducible refine (HLW.out _).mono ?_); rintro e w1 ⟨rfl, rfl⟩) | (go_at_call 29; (with_reducible refine (HHI.out _).mono ?_); rintro e w1 ⟨rfl, rfl⟩))
  all_goals
    go_at_call 13
    refine (HLO.out _).mono ?_
    rintro e w1 ⟨rfl, hb⟩
    have hR1 := hF.out.keep hb
    have hsz := hb.size
    simp only [World.size_alloc] at hsz
    have h2 := F5.new w1 false Z S false P
    have h3 := hR1.alloc (Obj.cells #[.bool false, .bool Z, .bool S, .bool false, .bool P] 24)
    have h4 := (((Below.refl _ w).alloc (Nat.le_refl _) fl0).trans (hb.mono (by simp))).alloc (show w.heap.size ≤ w1.heap.size by omega) (Obj.cells #[.bool false, .bool Z, .bool S, .bool false, .bool P] 24)
    have H2 := Lib.hid h2
    have H3 := Lib.hid h3
    have H4 := Lib.hid h4
    clear hR1 h2 h3 h4 hb
    go_upto_region 8 with fail
    generalize World.alloc _ _ = W2 at H2 H3 H4 ⊢
    obtain ⟨c0, c1, c2, c3, c4⟩ := H2.out.c
    obtain ⟨d0, d1, d2, d3, d4⟩ := H2.out.f
    have hR : Hid (Rt w (w1.heap.size) HB Z S HB P (w.heap.size) ((W2.setCell ⟨w1.heap.size, 0, none⟩ (.bool HB)).setCell ⟨w1.heap.size, 3, none⟩ (.bool HB))) := Lib.hid ⟨H2.out.set0.set3, ⟨_, _, _, _, _, (H3.out.far (by omega)).far (by omega)⟩, (H4.out.setCell (p := ⟨w1.heap.size, 0, none⟩) (show w.heap.size ≤ w1.heap.size by omega) _).setCell (p := ⟨w1.heap.size, 3, none⟩) (show w.heap.size ≤ w1.heap.size by omega) _⟩
    have hhb := HHB.out
    go_wp2
    clear c0 c1 c2 c3 c4 d0 d1 d2 d3 d4 hhb
    generalize World.setCell (World.setCell _ _ _) _ _ = W3 at hR ⊢
    refine wp_region_noPanic ?_
    refine wp_region_held_drew (S := fun W => Rt w (w1.heap.size) HB Z S HB P (w.heap.size) W) (by kernel_rfl) ?_ (fun hHeld => ?_)
    · exact hR.out.drew
    generalize World.drew _ = W4 at hHeld ⊢
    refine wpAnyH_take (i := 0) (v := ?_) rfl (by kernel_rfl) (by kernel_rfl) (by kernel_rfl) (fun _ _ _ h => h) (Or.inl ⟨by kernel_rfl, ?_⟩) (by assumption) ?_
    rotate_left
    · intro w hSw
      go_simp
      try with_reducible rfl
    simp only [Act.put, List.setIfInBounds_toArray, List.set_cons_zero, List.set_cons_succ, List.getElem_toArray, List.getElem_cons_succ, List.getElem_cons_zero]
    refine wpAnyH_take (i := 1) (v := ?_) rfl (by kernel_rfl) (by kernel_rfl) (by kernel_rfl) (fun _ _ _ h => h) (Or.inl ⟨by kernel_rfl, ?_⟩) (by assumption) ?_
    rotate_left
    · intro w hSw
      go_simp
      try with_reducible rfl
    simp only [Act.put, List.setIfInBounds_toArray, List.set_cons_zero, List.set_cons_succ, List.getElem_toArray, List.getElem_cons_succ, List.getElem_cons_zero]
    refine wpAnyH_take (i := 2) (v := ?_) rfl (by kernel_rfl) (by kernel_rfl) (by kernel_rfl) (fun _ _ _ h => h) (Or.inl ⟨by kernel_rfl, ?_⟩) (by assumption) ?_
    rotate_left
    · intro w hSw
      obtain ⟨g0, g1, g2, g3, g4⟩ := hSw.1.c
      go_simp
      try with_reducible rfl
    simp only [Act.put, List.setIfInBounds_toArray, List.set_cons_zero, List.set_cons_succ, List.getElem_toArray, List.getElem_cons_succ, List.getElem_cons_zero]
    refine wpAnyH_ready (rs := [3]) (by kernel_rfl) (by simp) ?_
    refine AllReadyH.cons rfl (fun K hK => ?_) AllReadyH.nil
    go_simp
    refine hK.out _ _ hHeld (fun hHeld2 => ?_)
    clear hK K hHeld
    have hHeld := hHeld2
    clear hHeld2
    try simp only [Act.put, List.setIfInBounds_toArray, List.set_cons_zero, List.set_cons_succ, List.getElem_toArray, List.getElem_cons_succ, List.getElem_cons_zero]
    refine wpAnyH_ready (rs := [4]) (by kernel_rfl) (by simp) ?_
    refine AllReadyH.cons rfl (fun K hK => ?_) AllReadyH.nil
    go_simp
    refine hK.out _ _ hHeld (fun hHeld2 => ?_)
    clear hK K hHeld
    have hHeld := hHeld2
    clear hHeld2
    try simp only [Act.put, List.setIfInBounds_toArray, List.set_cons_zero, List.set_cons_succ, List.getElem_toArray, List.getElem_cons_succ, List.getElem_cons_zero]
    refine wpAnyH_ready (rs := [5]) (by kernel_rfl) (by simp) ?_
    refine AllReadyH.cons rfl (fun K hK => ?_) AllReadyH.nil
    obtain ⟨y0, y1, y2, y3, y4, hy⟩ := hHeld.2.1
    obtain ⟨g0, g1, g2, g3, g4⟩ := hy.c
    obtain ⟨f0, f1, f2, f3, f4⟩ := hy.f
    go_simp
    have h9 := Lib.hid (hHeld.put (Nat.le_refl _))
    refine hK.out _ _ h9.out.1 (fun hHeld2 => ?_)
    clear hK K hHeld hHeld2 g0 g1 g2 g3 g4 f0 f1 f2 f3 f4 hy
    try simp only [Act.put, List.setIfInBounds_toArray, List.set_cons_zero, List.set_cons_succ, List.getElem_toArray, List.getElem_cons_succ, List.getElem_cons_zero]
    refine wpAnyH_done (by kernel_rfl) ?_ _
    refine NoPanic.normal ?_
    generalize World.setCell (World.setCell (World.setCell (World.setCell (World.setCell _ _ _) _ _) _ _) _ _) _ _ = W9 at h9 ⊢
    obtain ⟨⟨_, _, hbl⟩, hF⟩ := h9.out
    obtain ⟨g0, g1, g2, g3, g4⟩ := hF.c
    clear h9
    go_wp2
    exact bodyPost_ret (v := .tuple #[.int .u64 (low : Nat), .int .u64 (high : Nat), fl HB Z S HB P]) (by simp [results, Tryd.results25, go_sem, *]) rfl ⟨rfl, hbl⟩
theorem or_comm64 (x y : Nat) (hx : x < 18446744073709551616) (hy : y < 18446744073709551616) : bits BinOp.or IntKind.u64 (x : Int) (y : Int) = bits BinOp.or IntKind.u64 (y : Int) (x : Int) := by
  rw [u64_or_nat x y hx hy, u64_or_nat y x hy hx, Nat.or_comm]
theorem rcutI2 (v : Int) (hv : UI v) (wd : Int) (w : World) : Calls Tryd.prog 29 #[.int .u64 v, .int .i64 wd] w fun e w' => e = .returned (.int .u64 (cN v.toNat wd : Nat)) ∧ w = w' := by
  obtain ⟨n, rfl⟩ := Int.eq_ofNat_of_zero_le hv.1
  exact rcut_any n (by have := hv.2; unfold U; omega) wd w
theorem high_cut2 (a b : Nat) (wd : Int) (s t : Nat) (hs : s = (8 * hI wd).toNat) (ht : t = (64 - 8 * hI wd).toNat) :
    UI (bits BinOp.or IntKind.u64 (((pM a b wd % 18446744073709551616 : Nat) : Int) / 2 ^ s) (IntKind.u64.wrap (((pM a b wd / 18446744073709551616 : Nat) : Int) * 2 ^ t))) ∧
    cN (bits BinOp.or IntKind.u64 (((pM a b wd % 18446744073709551616 : Nat) : Int) / 2 ^ s) (IntKind.u64.wrap (((pM a b wd / 18446744073709551616 : Nat) : Int) * 2 ^ t))).toNat wd = highM a b wd := by
  refine ⟨bits_UI _ _ _, ?_⟩
  rw [← high_cut a b wd, hs, ht]
  have h1 : ((pM a b wd % 18446744073709551616 : Nat) : Int) / 2 ^ (8 * hI wd).toNat = ((pM a b wd % 18446744073709551616 / 2 ^ (8 * hI wd).toNat : Nat) : Int) := by rw [Int.natCast_ediv]; simp
  have hl : pM a b wd % 18446744073709551616 / 2 ^ (8 * hI wd).toNat < 18446744073709551616 := Nat.lt_of_le_of_lt (Nat.div_le_self _ _) (Nat.mod_lt _ (by decide))
  have h2 : UI (IntKind.u64.wrap (((pM a b wd / 18446744073709551616 : Nat) : Int) * 2 ^ (64 - 8 * hI wd).toNat)) := by rw [IntKind.wrap_u64]; unfold UI; omega
  obtain ⟨n, hn⟩ := Int.eq_ofNat_of_zero_le h2.1
  have hlt := h2.2
  rw [hn] at hlt
  rw [h1, hn, or_comm64 _ _ hl (by omega)]
theorem high_z (a b : Nat) (wd : Int) (h : hI wd = 8) : cN (pM a b wd / 18446744073709551616) wd = highM a b wd := by
  have e : 2 ^ (8 * hN wd) = 18446744073709551616 := by unfold hN; rw [h]; decide
  have hlt := highM_lt a b wd
  have e2 : highM a b wd = pM a b wd / 18446744073709551616 := by unfold highM; rw [e]
  rw [← e2]
  exact Nat.mod_eq_of_lt hlt
theorem rmul_any (a b : Nat) (ha : U a) (hb : U b) (wd : Int) (w : World) :
    Calls Tryd.prog 25 #[.int .i64 wd, .int .u64 a, .int .u64 b] w fun e w' => e = .returned (.tuple #[.int .u64 (lowM a b wd : Nat), .int .u64 (highM a b wd : Nat), fl (hBM a b wd) (zB (lowM a b wd) wd) (sB (lowM a b wd) wd) (hBM a b wd) (pB (lowM a b wd))]) ∧ Below w.heap.size w w' := by
  have hA := fun W => rcut_any a ha wd W
  have hB := fun W => rcut_any b hb wd W
  have hM := fun W => (mul64_any (cN a wd) (cN b wd) (cN_U a ha wd) (cN_U b hb wd) W)
  have hl := fun W => rcut_any (pM a b wd % 18446744073709551616) (Nat.mod_lt _ (by decide)) wd W
  rw [low_cut] at hl
  have hlo := fun W => rlogic_any _ (lowM_U a b wd) wd W
  by_cases h1 : wd < 1
  · have hI1 : hI wd = 1 := by unfold hI; rw [if_pos h1]
    obtain ⟨u, e⟩ := high_cut2 a b wd 8 56 (by rw [hI1]; rfl) (by rw [hI1]; rfl)
    have hh := fun W => rcutI2 _ u wd W
    rw [e] at hh
    exact rmul_core_a a b _ _ _ _ _ _ _ wd _ _ _ _ h1 hA hB hM hl hh rfl hlo rfl w
  · by_cases h2 : wd < 8
    · have hIw : hI wd = wd := by unfold hI; rw [if_neg h1, if_neg (by omega)]
      obtain ⟨u, e⟩ := high_cut2 a b wd (8 * wd).toNat (64 - 8 * wd).toNat (by rw [hIw]) (by rw [hIw])
      have hh := fun W => rcutI2 _ u wd W
      rw [e] at hh
      exact rmul_core_m a b _ _ _ _ _ _ _ wd _ _ _ _ h1 h2 hA hB hM hl hh rfl hlo rfl w
    · have hI8 : hI wd = 8 := by unfold hI; rw [if_neg h1]; split <;> omega
      have hh := fun W => rcut_any (pM a b wd / 18446744073709551616) (Nat.div_lt_of_lt_mul (Nat.mul_lt_mul_of_lt_of_lt (cN_U a ha wd) (cN_U b hb wd))) wd W
      rw [high_z a b wd hI8] at hh
      exact rmul_core_z a b _ _ _ _ _ _ 0 wd _ _ _ _ (by omega) hA hB hM hl hh hlo rfl w
end Go.Proofs.YtmfoeolllobidaaDoor
