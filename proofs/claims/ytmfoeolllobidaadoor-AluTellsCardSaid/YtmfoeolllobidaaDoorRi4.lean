/- The document's own products with signs. The document's own products with signs. The document's own products with signs. The document's own products with signs. -/
import Derived.Test.YtmfoeolllobidaaDoorRm
import Derived.Deep.DeepCutAuto
namespace Go.Proofs.YtmfoeolllobidaaDoor
open Go.RowKit Go.Shelf
set_option linter.unusedSimpArgs false
set_option linter.unusedVariables false
attribute [local go_sem] Oper.semAt_some
set_option maxRecDepth 100000 in
set_option maxHeartbeats 2000000 in
theorem rimul_aff (a b A B X Y low high r : Nat) (TOP : Int) (wd : Int) (Z S P u0 u1 u2 u3 u4 : Bool) (hw : wd < 1)
    (hA : ∀ W, Calls Tryd.prog 29 #[.int .u64 (a : Int), .int .i64 wd] W fun e w' => e = .returned (.int .u64 (A : Int)) ∧ W = w')
    (hB : ∀ W, Calls Tryd.prog 29 #[.int .u64 (b : Int), .int .i64 wd] W fun e w' => e = .returned (.int .u64 (B : Int)) ∧ W = w')
    (hsA : ∀ W, Calls Tryd.prog 39 #[.int .u64 (A : Int), .int .i64 wd] W fun e w' => e = .returned (.bool false) ∧ W = w')
    (hsB : ∀ W, Calls Tryd.prog 39 #[.int .u64 (B : Int), .int .i64 wd] W fun e w' => e = .returned (.bool false) ∧ W = w')
    (hmul : ∀ W, Calls Tryd.prog 25 #[.int .i64 wd, .int .u64 (A : Int), .int .u64 (B : Int)] W fun e w' => e = .returned (.tuple #[.int .u64 (low : Int), .int .u64 (high : Int), fl u0 u1 u2 u3 u4]) ∧ Below W.heap.size W w')
    (hlo : ∀ W, Calls Tryd.prog 13 #[.int .i64 wd, .int .u64 (low : Int)] W fun e w' => e = .returned (fl false Z S false P) ∧ Below W.heap.size W w')
    (w : World) :
    Calls Tryd.prog 23 #[.int .i64 wd, .int .u64 a, .int .u64 b] w fun e w' => e = .returned (.tuple #[.int .u64 (low : Nat), fl (!(((high : Int) == 0) && (decide ((low : Int) < 128) || (false && ((low : Int) == 128))))) Z S (!(((high : Int) == 0) && (decide ((low : Int) < 128) || (false && ((low : Int) == 128))))) P]) ∧ Below w.heap.size w w' := by
  have HA := Lib.hid hA
  have HB2 := Lib.hid hB
  have HSA := Lib.hid hsA
  have HSB := Lib.hid hsB
  have HMUL := Lib.hid hmul
  have HLO := Lib.hid hlo
  clear hA hB hsA hsB hmul hlo
  have hF := Lib.hid (F5.new w false false false false false)
  go_enter Tryd.func23, Tryd.ntmps23
  go_wp2_with (first | (go_at_call 29; (with_reducible refine (HA.out _).mono ?_); rintro e w1 ⟨rfl, rfl⟩) | (go_at_call 29; (with_reducible refine (HB2.out _).mono ?_); rintro e w1 ⟨rfl, rfl⟩) | (go_at_call 39; (with_reducible refine (HSA.out _).mono ?_); rintro e w1 ⟨rfl, rfl⟩) | (go_at_call 39; (with_reducible refine (HSB.out _).mono ?_); rintro e w1 ⟨rfl, rfl⟩))
  go_at_call 25
  refine (HMUL.out _).mono ?_
  rintro e w1 ⟨rfl, hb⟩
  have hsz := hb.size
  simp only [World.size_alloc] at hsz
  have H3 := Lib.hid ((hF.out.keep hb).alloc (Obj.cells #[.bool u0, .bool u1, .bool u2, .bool u3, .bool u4] 24))
  have H4 := Lib.hid ((((Below.refl _ w).alloc (Nat.le_refl _) fl0).trans (hb.mono (by simp))).alloc (show w.heap.size ≤ w1.heap.size by omega) (Obj.cells #[.bool u0, .bool u1, .bool u2, .bool u3, .bool u4] 24))
  clear hF hb
  go_upto_region 8 with fail
  generalize World.alloc _ _ = W1 at H3 H4 ⊢
  go_upto_region 9 with fail
  go_cut [15] (fun q W => q = .bool (((high : Int) == 0) && (decide ((low : Int) < 128) || (false && ((low : Int) == 128)))) ∧ W = W1)
  case first =>
    cases q1 : ((high : Int) == 0)
    · go_wp2_with fail
      go_meet
      exact ⟨by simp [q1], rfl⟩
    · cases q2 : decide ((low : Int) < 128)
      · go_wp2_with fail
        go_meet
        exact ⟨by simp [q1, q2], rfl⟩
      · go_wp2_with fail
        go_meet
        exact ⟨by simp [q1, q2], rfl⟩
  case rest =>
    obtain ⟨rfl, rfl⟩ := hcut
    generalize hFIT : (((high : Int) == 0) && (decide ((low : Int) < 128) || (false && ((low : Int) == 128)))) = FIT
    have HFIT := Lib.hid hFIT
    clear hFIT
    go_wp2_with fail
    go_at_call 13
    refine (HLO.out _).mono ?_
    rintro e w2 ⟨rfl, hb⟩
    have hsz2 := hb.size
    have hR1 := H3.out.keep hb
    have h2 := F5.new w2 false Z S false P
    have h3 := hR1.alloc (Obj.cells #[.bool false, .bool Z, .bool S, .bool false, .bool P] 24)
    have hsw := H4.out.size
    have h4 := (H4.out.trans (hb.mono hsw)).alloc (show w.heap.size ≤ w2.heap.size by omega) (Obj.cells #[.bool false, .bool Z, .bool S, .bool false, .bool P] 24)
    have hdlt := hR1.lt
    have hdst : w.heap.size < w2.heap.size := hdlt
    have H2 := Lib.hid h2
    have H3' := Lib.hid h3
    have H4' := Lib.hid h4
    clear hR1 h2 h3 h4 hb hdlt
    go_upto_region 14 with fail
    generalize World.alloc _ _ = W2 at H2 H3' H4' ⊢
    obtain ⟨c0, c1, c2, c3, c4⟩ := H2.out.c
    obtain ⟨d0, d1, d2, d3, d4⟩ := H2.out.f
    have hR : Hid (Rt w (w2.heap.size) (!FIT) Z S (!FIT) P (w.heap.size) ((W2.setCell ⟨w2.heap.size, 0, none⟩ (.bool (!FIT))).setCell ⟨w2.heap.size, 3, none⟩ (.bool (!FIT)))) := Lib.hid ⟨H2.out.set0.set3, ⟨_, _, _, _, _, (H3'.out.far (by omega)).far (by omega)⟩, (H4'.out.setCell (p := ⟨w2.heap.size, 0, none⟩) (show w.heap.size ≤ w2.heap.size by omega) _).setCell (p := ⟨w2.heap.size, 3, none⟩) (show w.heap.size ≤ w2.heap.size by omega) _⟩
    go_wp2
    clear c0 c1 c2 c3 c4 d0 d1 d2 d3 d4
    generalize World.setCell (World.setCell _ _ _) _ _ = W3 at hR ⊢
    refine wp_region_noPanic ?_
    refine wp_region_held_drew (S := fun W => Rt w (w2.heap.size) (!FIT) Z S (!FIT) P (w.heap.size) W) (by kernel_rfl) ?_ (fun hHeld => ?_)
    · exact hR.out.drew
    generalize World.drew _ = W4 at hHeld ⊢
    refine wpAnyH_take (i := 0) (v := ?_) rfl (by kernel_rfl) (by kernel_rfl) (by kernel_rfl) (fun _ _ _ h => h) (Or.inl ⟨by kernel_rfl, ?_⟩) (by assumption) ?_
    rotate_left
    · intro w hSw
      go_simp
      try with_reducible rfl
    simp only [Act.put, List.setIfInBounds_toArray, List.set_cons_zero, List.set_cons_succ, List.getElem_toArray, List.getElem_cons_succ, List.getElem_cons_zero]
    refine wpAnyH_take (i := 1) (v := ?_) rfl (by kernel_rfl) (by kernel_rfl) (by kernel_rfl) (fun _ _ _ h => h) (Or.inl ⟨by kernel_rfl, ?_⟩) (by assumption) ?_
    rotate_left
    · intro w hSw
      obtain ⟨g0, g1, g2, g3, g4⟩ := hSw.1.c
      go_simp
      try with_reducible rfl
    simp only [Act.put, List.setIfInBounds_toArray, List.set_cons_zero, List.set_cons_succ, List.getElem_toArray, List.getElem_cons_succ, List.getElem_cons_zero]
    refine wpAnyH_ready (rs := [2]) (by kernel_rfl) (by simp) ?_
    refine AllReadyH.cons rfl (fun K hK => ?_) AllReadyH.nil
    go_simp
    refine hK.out _ _ hHeld (fun hHeld2 => ?_)
    clear hK K hHeld
    have hHeld := hHeld2
    clear hHeld2
    try simp only [Act.put, List.setIfInBounds_toArray, List.set_cons_zero, List.set_cons_succ, List.getElem_toArray, List.getElem_cons_succ, List.getElem_cons_zero]
    refine wpAnyH_ready (rs := [3]) (by kernel_rfl) (by simp) ?_
    refine AllReadyH.cons rfl (fun K hK => ?_) AllReadyH.nil
    obtain ⟨y0, y1, y2, y3, y4, hy⟩ := hHeld.2.1
    obtain ⟨g0, g1, g2, g3, g4⟩ := hy.c
    obtain ⟨f0, f1, f2, f3, f4⟩ := hy.f
    go_simp
    have h9 := Lib.hid (hHeld.put (Nat.le_refl _))
    refine hK.out _ _ h9.out.1 (fun hHeld2 => ?_)
    clear hK K hHeld hHeld2 g0 g1 g2 g3 g4 f0 f1 f2 f3 f4 hy
    try simp only [Act.put, List.setIfInBounds_toArray, List.set_cons_zero, List.set_cons_succ, List.getElem_toArray, List.getElem_cons_succ, List.getElem_cons_zero]
    refine wpAnyH_done (by kernel_rfl) ?_ _
    refine NoPanic.normal ?_
    generalize World.setCell (World.setCell (World.setCell (World.setCell (World.setCell _ _ _) _ _) _ _) _ _) _ _ = W9 at h9 ⊢
    obtain ⟨⟨_, _, hbl⟩, hF⟩ := h9.out
    obtain ⟨g0, g1, g2, g3, g4⟩ := hF.c
    clear h9
    go_wp2
    exact bodyPost_ret (v := .tuple #[.int .u64 (low : Nat), fl (!FIT) Z S (!FIT) P]) (by simp [results, Tryd.results23, go_sem, *]) rfl ⟨by rw [← HFIT.out], hbl⟩
set_option maxRecDepth 100000 in
set_option maxHeartbeats 2000000 in
theorem rimul_aft (a b A B X Y low high r : Nat) (TOP : Int) (wd : Int) (Z S P u0 u1 u2 u3 u4 : Bool) (hw : wd < 1)
    (hA : ∀ W, Calls Tryd.prog 29 #[.int .u64 (a : Int), .int .i64 wd] W fun e w' => e = .returned (.int .u64 (A : Int)) ∧ W = w')
    (hB : ∀ W, Calls Tryd.prog 29 #[.int .u64 (b : Int), .int .i64 wd] W fun e w' => e = .returned (.int .u64 (B : Int)) ∧ W = w')
    (hsA : ∀ W, Calls Tryd.prog 39 #[.int .u64 (A : Int), .int .i64 wd] W fun e w' => e = .returned (.bool false) ∧ W = w')
    (hsB : ∀ W, Calls Tryd.prog 39 #[.int .u64 (B : Int), .int .i64 wd] W fun e w' => e = .returned (.bool true) ∧ W = w')
    (hY : ∀ W, Calls Tryd.prog 29 #[.int .u64 (IntKind.u64.wrap (-(B : Int))), .int .i64 wd] W fun e w' => e = .returned (.int .u64 (Y : Int)) ∧ W = w')
    (hmul : ∀ W, Calls Tryd.prog 25 #[.int .i64 wd, .int .u64 (A : Int), .int .u64 (Y : Int)] W fun e w' => e = .returned (.tuple #[.int .u64 (low : Int), .int .u64 (high : Int), fl u0 u1 u2 u3 u4]) ∧ Below W.heap.size W w')
    (hneg : ∀ W, Calls Tryd.prog 29 #[.int .u64 (IntKind.u64.wrap (-(low : Int))), .int .i64 wd] W fun e w' => e = .returned (.int .u64 (r : Int)) ∧ W = w')
    (hlo : ∀ W, Calls Tryd.prog 13 #[.int .i64 wd, .int .u64 (r : Int)] W fun e w' => e = .returned (fl false Z S false P) ∧ Below W.heap.size W w')
    (w : World) :
    Calls Tryd.prog 23 #[.int .i64 wd, .int .u64 a, .int .u64 b] w fun e w' => e = .returned (.tuple #[.int .u64 (r : Nat), fl (!(((high : Int) == 0) && (decide ((low : Int) < 128) || (true && ((low : Int) == 128))))) Z S (!(((high : Int) == 0) && (decide ((low : Int) < 128) || (true && ((low : Int) == 128))))) P]) ∧ Below w.heap.size w w' := by
  have HA := Lib.hid hA
  have HB2 := Lib.hid hB
  have HSA := Lib.hid hsA
  have HSB := Lib.hid hsB
  have HY := Lib.hid hY
  have HMUL := Lib.hid hmul
  have HNEG := Lib.hid hneg
  have HLO := Lib.hid hlo
  clear hA hB hsA hsB hY hmul hneg hlo
  have hF := Lib.hid (F5.new w false false false false false)
  go_enter Tryd.func23, Tryd.ntmps23
  go_wp2_with (first | (go_at_call 29; (with_reducible refine (HA.out _).mono ?_); rintro e w1 ⟨rfl, rfl⟩) | (go_at_call 29; (with_reducible refine (HB2.out _).mono ?_); rintro e w1 ⟨rfl, rfl⟩) | (go_at_call 39; (with_reducible refine (HSA.out _).mono ?_); rintro e w1 ⟨rfl, rfl⟩) | (go_at_call 39; (with_reducible refine (HSB.out _).mono ?_); rintro e w1 ⟨rfl, rfl⟩) | (go_at_call 29; (with_reducible refine (HY.out _).mono ?_); rintro e w1 ⟨rfl, rfl⟩))
  go_at_call 25
  refine (HMUL.out _).mono ?_
  rintro e w1 ⟨rfl, hb⟩
  have hsz := hb.size
  simp only [World.size_alloc] at hsz
  have H3 := Lib.hid ((hF.out.keep hb).alloc (Obj.cells #[.bool u0, .bool u1, .bool u2, .bool u3, .bool u4] 24))
  have H4 := Lib.hid ((((Below.refl _ w).alloc (Nat.le_refl _) fl0).trans (hb.mono (by simp))).alloc (show w.heap.size ≤ w1.heap.size by omega) (Obj.cells #[.bool u0, .bool u1, .bool u2, .bool u3, .bool u4] 24))
  clear hF hb
  go_upto_region 8 with fail
  generalize World.alloc _ _ = W1 at H3 H4 ⊢
  go_upto_region 9 with fail
  go_cut [15] (fun q W => q = .bool (((high : Int) == 0) && (decide ((low : Int) < 128) || (true && ((low : Int) == 128)))) ∧ W = W1)
  case first =>
    cases q1 : ((high : Int) == 0)
    · go_wp2_with fail
      go_meet
      exact ⟨by simp [q1], rfl⟩
    · cases q2 : decide ((low : Int) < 128)
      · cases q3 : ((low : Int) == 128)
        · go_wp2_with fail
          go_meet
          exact ⟨by simp [q1, q2, q3], rfl⟩
        · go_wp2_with fail
          go_meet
          exact ⟨by simp [q1, q2, q3], rfl⟩
      · go_wp2_with fail
        go_meet
        exact ⟨by simp [q1, q2], rfl⟩
  case rest =>
    obtain ⟨rfl, rfl⟩ := hcut
    generalize hFIT : (((high : Int) == 0) && (decide ((low : Int) < 128) || (true && ((low : Int) == 128)))) = FIT
    have HFIT := Lib.hid hFIT
    clear hFIT
    go_wp2_with (go_at_call 29; (with_reducible refine (HNEG.out _).mono ?_); rintro e w1 ⟨rfl, rfl⟩)
    go_at_call 13
    refine (HLO.out _).mono ?_
    rintro e w2 ⟨rfl, hb⟩
    have hsz2 := hb.size
    have hR1 := H3.out.keep hb
    have h2 := F5.new w2 false Z S false P
    have h3 := hR1.alloc (Obj.cells #[.bool false, .bool Z, .bool S, .bool false, .bool P] 24)
    have hsw := H4.out.size
    have h4 := (H4.out.trans (hb.mono hsw)).alloc (show w.heap.size ≤ w2.heap.size by omega) (Obj.cells #[.bool false, .bool Z, .bool S, .bool false, .bool P] 24)
    have hdlt := hR1.lt
    have hdst : w.heap.size < w2.heap.size := hdlt
    have H2 := Lib.hid h2
    have H3' := Lib.hid h3
    have H4' := Lib.hid h4
    clear hR1 h2 h3 h4 hb hdlt
    go_upto_region 14 with fail
    generalize World.alloc _ _ = W2 at H2 H3' H4' ⊢
    obtain ⟨c0, c1, c2, c3, c4⟩ := H2.out.c
    obtain ⟨d0, d1, d2, d3, d4⟩ := H2.out.f
    have hR : Hid (Rt w (w2.heap.size) (!FIT) Z S (!FIT) P (w.heap.size) ((W2.setCell ⟨w2.heap.size, 0, none⟩ (.bool (!FIT))).setCell ⟨w2.heap.size, 3, none⟩ (.bool (!FIT)))) := Lib.hid ⟨H2.out.set0.set3, ⟨_, _, _, _, _, (H3'.out.far (by omega)).far (by omega)⟩, (H4'.out.setCell (p := ⟨w2.heap.size, 0, none⟩) (show w.heap.size ≤ w2.heap.size by omega) _).setCell (p := ⟨w2.heap.size, 3, none⟩) (show w.heap.size ≤ w2.heap.size by omega) _⟩
    go_wp2
    clear c0 c1 c2 c3 c4 d0 d1 d2 d3 d4
    generalize World.setCell (World.setCell _ _ _) _ _ = W3 at hR ⊢
    refine wp_region_noPanic ?_
    refine wp_region_held_drew (S := fun W => Rt w (w2.heap.size) (!FIT) Z S (!FIT) P (w.heap.size) W) (by kernel_rfl) ?_ (fun hHeld => ?_)
    · exact hR.out.drew
    generalize World.drew _ = W4 at hHeld ⊢
    refine wpAnyH_take (i := 0) (v := ?_) rfl (by kernel_rfl) (by kernel_rfl) (by kernel_rfl) (fun _ _ _ h => h) (Or.inl ⟨by kernel_rfl, ?_⟩) (by assumption) ?_
    rotate_left
    · intro w hSw
      go_simp
      try with_reducible rfl
    simp only [Act.put, List.setIfInBounds_toArray, List.set_cons_zero, List.set_cons_succ, List.getElem_toArray, List.getElem_cons_succ, List.getElem_cons_zero]
    refine wpAnyH_take (i := 1) (v := ?_) rfl (by kernel_rfl) (by kernel_rfl) (by kernel_rfl) (fun _ _ _ h => h) (Or.inl ⟨by kernel_rfl, ?_⟩) (by assumption) ?_
    rotate_left
    · intro w hSw
      obtain ⟨g0, g1, g2, g3, g4⟩ := hSw.1.c
      go_simp
      try with_reducible rfl
    simp only [Act.put, List.setIfInBounds_toArray, List.set_cons_zero, List.set_cons_succ, List.getElem_toArray, List.getElem_cons_succ, List.getElem_cons_zero]
    refine wpAnyH_ready (rs := [2]) (by kernel_rfl) (by simp) ?_
    refine AllReadyH.cons rfl (fun K hK => ?_) AllReadyH.nil
    go_simp
    refine hK.out _ _ hHeld (fun hHeld2 => ?_)
    clear hK K hHeld
    have hHeld := hHeld2
    clear hHeld2
    try simp only [Act.put, List.setIfInBounds_toArray, List.set_cons_zero, List.set_cons_succ, List.getElem_toArray, List.getElem_cons_succ, List.getElem_cons_zero]
    refine wpAnyH_ready (rs := [3]) (by kernel_rfl) (by simp) ?_
    refine AllReadyH.cons rfl (fun K hK => ?_) AllReadyH.nil
    obtain ⟨y0, y1, y2, y3, y4, hy⟩ := hHeld.2.1
    obtain ⟨g0, g1, g2, g3, g4⟩ := hy.c
    obtain ⟨f0, f1, f2, f3, f4⟩ := hy.f
    go_simp
    have h9 := Lib.hid (hHeld.put (Nat.le_refl _))
    refine hK.out _ _ h9.out.1 (fun hHeld2 => ?_)
    clear hK K hHeld hHeld2 g0 g1 g2 g3 g4 f0 f1 f2 f3 f4 hy
    try simp only [Act.put, List.setIfInBounds_toArray, List.set_cons_zero, List.set_cons_succ, List.getElem_toArray, List.getElem_cons_succ, List.getElem_cons_zero]
    refine wpAnyH_done (by kernel_rfl) ?_ _
    refine NoPanic.normal ?_
    generalize World.setCell (World.setCell (World.setCell (World.setCell (World.setCell _ _ _) _ _) _ _) _ _) _ _ = W9 at h9 ⊢
    obtain ⟨⟨_, _, hbl⟩, hF⟩ := h9.out
    obtain ⟨g0, g1, g2, g3, g4⟩ := hF.c
    clear h9
    go_wp2
    exact bodyPost_ret (v := .tuple #[.int .u64 (r : Nat), fl (!FIT) Z S (!FIT) P]) (by simp [results, Tryd.results23, go_sem, *]) rfl ⟨by rw [← HFIT.out], hbl⟩
set_option maxRecDepth 100000 in
set_option maxHeartbeats 2000000 in
theorem rimul_atf (a b A B X Y low high r : Nat) (TOP : Int) (wd : Int) (Z S P u0 u1 u2 u3 u4 : Bool) (hw : wd < 1)
    (hA : ∀ W, Calls Tryd.prog 29 #[.int .u64 (a : Int), .int .i64 wd] W fun e w' => e = .returned (.int .u64 (A : Int)) ∧ W = w')
    (hB : ∀ W, Calls Tryd.prog 29 #[.int .u64 (b : Int), .int .i64 wd] W fun e w' => e = .returned (.int .u64 (B : Int)) ∧ W = w')
    (hsA : ∀ W, Calls Tryd.prog 39 #[.int .u64 (A : Int), .int .i64 wd] W fun e w' => e = .returned (.bool true) ∧ W = w')
    (hsB : ∀ W, Calls Tryd.prog 39 #[.int .u64 (B : Int), .int .i64 wd] W fun e w' => e = .returned (.bool false) ∧ W = w')
    (hX : ∀ W, Calls Tryd.prog 29 #[.int .u64 (IntKind.u64.wrap (-(A : Int))), .int .i64 wd] W fun e w' => e = .returned (.int .u64 (X : Int)) ∧ W = w')
    (hmul : ∀ W, Calls Tryd.prog 25 #[.int .i64 wd, .int .u64 (X : Int), .int .u64 (B : Int)] W fun e w' => e = .returned (.tuple #[.int .u64 (low : Int), .int .u64 (high : Int), fl u0 u1 u2 u3 u4]) ∧ Below W.heap.size W w')
    (hneg : ∀ W, Calls Tryd.prog 29 #[.int .u64 (IntKind.u64.wrap (-(low : Int))), .int .i64 wd] W fun e w' => e = .returned (.int .u64 (r : Int)) ∧ W = w')
    (hlo : ∀ W, Calls Tryd.prog 13 #[.int .i64 wd, .int .u64 (r : Int)] W fun e w' => e = .returned (fl false Z S false P) ∧ Below W.heap.size W w')
    (w : World) :
    Calls Tryd.prog 23 #[.int .i64 wd, .int .u64 a, .int .u64 b] w fun e w' => e = .returned (.tuple #[.int .u64 (r : Nat), fl (!(((high : Int) == 0) && (decide ((low : Int) < 128) || (true && ((low : Int) == 128))))) Z S (!(((high : Int) == 0) && (decide ((low : Int) < 128) || (true && ((low : Int) == 128))))) P]) ∧ Below w.heap.size w w' := by
  have HA := Lib.hid hA
  have HB2 := Lib.hid hB
  have HSA := Lib.hid hsA
  have HSB := Lib.hid hsB
  have HX := Lib.hid hX
  have HMUL := Lib.hid hmul
  have HNEG := Lib.hid hneg
  have HLO := Lib.hid hlo
  clear hA hB hsA hsB hX hmul hneg hlo
  have hF := Lib.hid (F5.new w false false false false false)
  go_enter Tryd.func23, Tryd.ntmps23
  go_wp2_with (first | (go_at_call 29; (with_reducible refine (HA.out _).mono ?_); rintro e w1 ⟨rfl, rfl⟩) | (go_at_call 29; (with_reducible refine (HB2.out _).mono ?_); rintro e w1 ⟨rfl, rfl⟩) | (go_at_call 39; (with_reducible refine (HSA.out _).mono ?_); rintro e w1 ⟨rfl, rfl⟩) | (go_at_call 39; (with_reducible refine (HSB.out _).mono ?_); rintro e w1 ⟨rfl, rfl⟩) | (go_at_call 29; (with_reducible refine (HX.out _).mono ?_); rintro e w1 ⟨rfl, rfl⟩))
  go_at_call 25
  refine (HMUL.out _).mono ?_
  rintro e w1 ⟨rfl, hb⟩
  have hsz := hb.size
  simp only [World.size_alloc] at hsz
  have H3 := Lib.hid ((hF.out.keep hb).alloc (Obj.cells #[.bool u0, .bool u1, .bool u2, .bool u3, .bool u4] 24))
  have H4 := Lib.hid ((((Below.refl _ w).alloc (Nat.le_refl _) fl0).trans (hb.mono (by simp))).alloc (show w.heap.size ≤ w1.heap.size by omega) (Obj.cells #[.bool u0, .bool u1, .bool u2, .bool u3, .bool u4] 24))
  clear hF hb
  go_upto_region 8 with fail
  generalize World.alloc _ _ = W1 at H3 H4 ⊢
  go_upto_region 9 with fail
  go_cut [15] (fun q W => q = .bool (((high : Int) == 0) && (decide ((low : Int) < 128) || (true && ((low : Int) == 128)))) ∧ W = W1)
  case first =>
    cases q1 : ((high : Int) == 0)
    · go_wp2_with fail
      go_meet
      exact ⟨by simp [q1], rfl⟩
    · cases q2 : decide ((low : Int) < 128)
      · cases q3 : ((low : Int) == 128)
        · go_wp2_with fail
          go_meet
          exact ⟨by simp [q1, q2, q3], rfl⟩
        · go_wp2_with fail
          go_meet
          exact ⟨by simp [q1, q2, q3], rfl⟩
      · go_wp2_with fail
        go_meet
        exact ⟨by simp [q1, q2], rfl⟩
  case rest =>
    obtain ⟨rfl, rfl⟩ := hcut
    generalize hFIT : (((high : Int) == 0) && (decide ((low : Int) < 128) || (true && ((low : Int) == 128)))) = FIT
    have HFIT := Lib.hid hFIT
    clear hFIT
    go_wp2_with (go_at_call 29; (with_reducible refine (HNEG.out _).mono ?_); rintro e w1 ⟨rfl, rfl⟩)
    go_at_call 13
    refine (HLO.out _).mono ?_
    rintro e w2 ⟨rfl, hb⟩
    have hsz2 := hb.size
    have hR1 := H3.out.keep hb
    have h2 := F5.new w2 false Z S false P
    have h3 := hR1.alloc (Obj.cells #[.bool false, .bool Z, .bool S, .bool false, .bool P] 24)
    have hsw := H4.out.size
    have h4 := (H4.out.trans (hb.mono hsw)).alloc (show w.heap.size ≤ w2.heap.size by omega) (Obj.cells #[.bool false, .bool Z, .bool S, .bool false, .bool P] 24)
    have hdlt := hR1.lt
    have hdst : w.heap.size < w2.heap.size := hdlt
    have H2 := Lib.hid h2
    have H3' := Lib.hid h3
    have H4' := Lib.hid h4
    clear hR1 h2 h3 h4 hb hdlt
    go_upto_region 14 with fail
    generalize World.alloc _ _ = W2 at H2 H3' H4' ⊢
    obtain ⟨c0, c1, c2, c3, c4⟩ := H2.out.c
    obtain ⟨d0, d1, d2, d3, d4⟩ := H2.out.f
    have hR : Hid (Rt w (w2.heap.size) (!FIT) Z S (!FIT) P (w.heap.size) ((W2.setCell ⟨w2.heap.size, 0, none⟩ (.bool (!FIT))).setCell ⟨w2.heap.size, 3, none⟩ (.bool (!FIT)))) := Lib.hid ⟨H2.out.set0.set3, ⟨_, _, _, _, _, (H3'.out.far (by omega)).far (by omega)⟩, (H4'.out.setCell (p := ⟨w2.heap.size, 0, none⟩) (show w.heap.size ≤ w2.heap.size by omega) _).setCell (p := ⟨w2.heap.size, 3, none⟩) (show w.heap.size ≤ w2.heap.size by omega) _⟩
    go_wp2
    clear c0 c1 c2 c3 c4 d0 d1 d2 d3 d4
    generalize World.setCell (World.setCell _ _ _) _ _ = W3 at hR ⊢
    refine wp_region_noPanic ?_
    refine wp_region_held_drew (S := fun W => Rt w (w2.heap.size) (!FIT) Z S (!FIT) P (w.heap.size) W) (by kernel_rfl) ?_ (fun hHeld => ?_)
    · exact hR.out.drew
    generalize World.drew _ = W4 at hHeld ⊢
    refine wpAnyH_take (i := 0) (v := ?_) rfl (by kernel_rfl) (by kernel_rfl) (by kernel_rfl) (fun _ _ _ h => h) (Or.inl ⟨by kernel_rfl, ?_⟩) (by assumption) ?_
    rotate_left
    · intro w hSw
      go_simp
      try with_reducible rfl
    simp only [Act.put, List.setIfInBounds_toArray, List.set_cons_zero, List.set_cons_succ, List.getElem_toArray, List.getElem_cons_succ, List.getElem_cons_zero]
    refine wpAnyH_take (i := 1) (v := ?_) rfl (by kernel_rfl) (by kernel_rfl) (by kernel_rfl) (fun _ _ _ h => h) (Or.inl ⟨by kernel_rfl, ?_⟩) (by assumption) ?_
    rotate_left
    · intro w hSw
      obtain ⟨g0, g1, g2, g3, g4⟩ := hSw.1.c
      go_simp
      try with_reducible rfl
    simp only [Act.put, List.setIfInBounds_toArray, List.set_cons_zero, List.set_cons_succ, List.getElem_toArray, List.getElem_cons_succ, List.getElem_cons_zero]
    refine wpAnyH_ready (rs := [2]) (by kernel_rfl) (by simp) ?_
    refine AllReadyH.cons rfl (fun K hK => ?_) AllReadyH.nil
    go_simp
    refine hK.out _ _ hHeld (fun hHeld2 => ?_)
    clear hK K hHeld
    have hHeld := hHeld2
    clear hHeld2
    try simp only [Act.put, List.setIfInBounds_toArray, List.set_cons_zero, List.set_cons_succ, List.getElem_toArray, List.getElem_cons_succ, List.getElem_cons_zero]
    refine wpAnyH_ready (rs := [3]) (by kernel_rfl) (by simp) ?_
    refine AllReadyH.cons rfl (fun K hK => ?_) AllReadyH.nil
    obtain ⟨y0, y1, y2, y3, y4, hy⟩ := hHeld.2.1
    obtain ⟨g0, g1, g2, g3, g4⟩ := hy.c
    obtain ⟨f0, f1, f2, f3, f4⟩ := hy.f
    go_simp
    have h9 := Lib.hid (hHeld.put (Nat.le_refl _))
    refine hK.out _ _ h9.out.1 (fun hHeld2 => ?_)
    clear hK K hHeld hHeld2 g0 g1 g2 g3 g4 f0 f1 f2 f3 f4 hy
    try simp only [Act.put, List.setIfInBounds_toArray, List.set_cons_zero, List.set_cons_succ, List.getElem_toArray, List.getElem_cons_succ, List.getElem_cons_zero]
    refine wpAnyH_done (by kernel_rfl) ?_ _
    refine NoPanic.normal ?_
    generalize World.setCell (World.setCell (World.setCell (World.setCell (World.setCell _ _ _) _ _) _ _) _ _) _ _ = W9 at h9 ⊢
    obtain ⟨⟨_, _, hbl⟩, hF⟩ := h9.out
    obtain ⟨g0, g1, g2, g3, g4⟩ := hF.c
    clear h9
    go_wp2
    exact bodyPost_ret (v := .tuple #[.int .u64 (r : Nat), fl (!FIT) Z S (!FIT) P]) (by simp [results, Tryd.results23, go_sem, *]) rfl ⟨by rw [← HFIT.out], hbl⟩
set_option maxRecDepth 100000 in
set_option maxHeartbeats 2000000 in
theorem rimul_att (a b A B X Y low high r : Nat) (TOP : Int) (wd : Int) (Z S P u0 u1 u2 u3 u4 : Bool) (hw : wd < 1)
    (hA : ∀ W, Calls Tryd.prog 29 #[.int .u64 (a : Int), .int .i64 wd] W fun e w' => e = .returned (.int .u64 (A : Int)) ∧ W = w')
    (hB : ∀ W, Calls Tryd.prog 29 #[.int .u64 (b : Int), .int .i64 wd] W fun e w' => e = .returned (.int .u64 (B : Int)) ∧ W = w')
    (hsA : ∀ W, Calls Tryd.prog 39 #[.int .u64 (A : Int), .int .i64 wd] W fun e w' => e = .returned (.bool true) ∧ W = w')
    (hsB : ∀ W, Calls Tryd.prog 39 #[.int .u64 (B : Int), .int .i64 wd] W fun e w' => e = .returned (.bool true) ∧ W = w')
    (hX : ∀ W, Calls Tryd.prog 29 #[.int .u64 (IntKind.u64.wrap (-(A : Int))), .int .i64 wd] W fun e w' => e = .returned (.int .u64 (X : Int)) ∧ W = w')
    (hY : ∀ W, Calls Tryd.prog 29 #[.int .u64 (IntKind.u64.wrap (-(B : Int))), .int .i64 wd] W fun e w' => e = .returned (.int .u64 (Y : Int)) ∧ W = w')
    (hmul : ∀ W, Calls Tryd.prog 25 #[.int .i64 wd, .int .u64 (X : Int), .int .u64 (Y : Int)] W fun e w' => e = .returned (.tuple #[.int .u64 (low : Int), .int .u64 (high : Int), fl u0 u1 u2 u3 u4]) ∧ Below W.heap.size W w')
    (hlo : ∀ W, Calls Tryd.prog 13 #[.int .i64 wd, .int .u64 (low : Int)] W fun e w' => e = .returned (fl false Z S false P) ∧ Below W.heap.size W w')
    (w : World) :
    Calls Tryd.prog 23 #[.int .i64 wd, .int .u64 a, .int .u64 b] w fun e w' => e = .returned (.tuple #[.int .u64 (low : Nat), fl (!(((high : Int) == 0) && (decide ((low : Int) < 128) || (false && ((low : Int) == 128))))) Z S (!(((high : Int) == 0) && (decide ((low : Int) < 128) || (false && ((low : Int) == 128))))) P]) ∧ Below w.heap.size w w' := by
  have HA := Lib.hid hA
  have HB2 := Lib.hid hB
  have HSA := Lib.hid hsA
  have HSB := Lib.hid hsB
  have HX := Lib.hid hX
  have HY := Lib.hid hY
  have HMUL := Lib.hid hmul
  have HLO := Lib.hid hlo
  clear hA hB hsA hsB hX hY hmul hlo
  have hF := Lib.hid (F5.new w false false false false false)
  go_enter Tryd.func23, Tryd.ntmps23
  go_wp2_with (first | (go_at_call 29; (with_reducible refine (HA.out _).mono ?_); rintro e w1 ⟨rfl, rfl⟩) | (go_at_call 29; (with_reducible refine (HB2.out _).mono ?_); rintro e w1 ⟨rfl, rfl⟩) | (go_at_call 39; (with_reducible refine (HSA.out _).mono ?_); rintro e w1 ⟨rfl, rfl⟩) | (go_at_call 39; (with_reducible refine (HSB.out _).mono ?_); rintro e w1 ⟨rfl, rfl⟩) | (go_at_call 29; (with_reducible refine (HX.out _).mono ?_); rintro e w1 ⟨rfl, rfl⟩) | (go_at_call 29; (with_reducible refine (HY.out _).mono ?_); rintro e w1 ⟨rfl, rfl⟩))
  go_at_call 25
  refine (HMUL.out _).mono ?_
  rintro e w1 ⟨rfl, hb⟩
  have hsz := hb.size
  simp only [World.size_alloc] at hsz
  have H3 := Lib.hid ((hF.out.keep hb).alloc (Obj.cells #[.bool u0, .bool u1, .bool u2, .bool u3, .bool u4] 24))
  have H4 := Lib.hid ((((Below.refl _ w).alloc (Nat.le_refl _) fl0).trans (hb.mono (by simp))).alloc (show w.heap.size ≤ w1.heap.size by omega) (Obj.cells #[.bool u0, .bool u1, .bool u2, .bool u3, .bool u4] 24))
  clear hF hb
  go_upto_region 8 with fail
  generalize World.alloc _ _ = W1 at H3 H4 ⊢
  go_upto_region 9 with fail
  go_cut [15] (fun q W => q = .bool (((high : Int) == 0) && (decide ((low : Int) < 128) || (false && ((low : Int) == 128)))) ∧ W = W1)
  case first =>
    cases q1 : ((high : Int) == 0)
    · go_wp2_with fail
      go_meet
      exact ⟨by simp [q1], rfl⟩
    · cases q2 : decide ((low : Int) < 128)
      · go_wp2_with fail
        go_meet
        exact ⟨by simp [q1, q2], rfl⟩
      · go_wp2_with fail
        go_meet
        exact ⟨by simp [q1, q2], rfl⟩
  case rest =>
    obtain ⟨rfl, rfl⟩ := hcut
    generalize hFIT : (((high : Int) == 0) && (decide ((low : Int) < 128) || (false && ((low : Int) == 128)))) = FIT
    have HFIT := Lib.hid hFIT
    clear hFIT
    go_wp2_with fail
    go_at_call 13
    refine (HLO.out _).mono ?_
    rintro e w2 ⟨rfl, hb⟩
    have hsz2 := hb.size
    have hR1 := H3.out.keep hb
    have h2 := F5.new w2 false Z S false P
    have h3 := hR1.alloc (Obj.cells #[.bool false, .bool Z, .bool S, .bool false, .bool P] 24)
    have hsw := H4.out.size
    have h4 := (H4.out.trans (hb.mono hsw)).alloc (show w.heap.size ≤ w2.heap.size by omega) (Obj.cells #[.bool false, .bool Z, .bool S, .bool false, .bool P] 24)
    have hdlt := hR1.lt
    have hdst : w.heap.size < w2.heap.size := hdlt
    have H2 := Lib.hid h2
    have H3' := Lib.hid h3
    have H4' := Lib.hid h4
    clear hR1 h2 h3 h4 hb hdlt
    go_upto_region 14 with fail
    generalize World.alloc _ _ = W2 at H2 H3' H4' ⊢
    obtain ⟨c0, c1, c2, c3, c4⟩ := H2.out.c
    obtain ⟨d0, d1, d2, d3, d4⟩ := H2.out.f
    have hR : Hid (Rt w (w2.heap.size) (!FIT) Z S (!FIT) P (w.heap.size) ((W2.setCell ⟨w2.heap.size, 0, none⟩ (.bool (!FIT))).setCell ⟨w2.heap.size, 3, none⟩ (.bool (!FIT)))) := Lib.hid ⟨H2.out.set0.set3, ⟨_, _, _, _, _, (H3'.out.far (by omega)).far (by omega)⟩, (H4'.out.setCell (p := ⟨w2.heap.size, 0, none⟩) (show w.heap.size ≤ w2.heap.size by omega) _).setCell (p := ⟨w2.heap.size, 3, none⟩) (show w.heap.size ≤ w2.heap.size by omega) _⟩
    go_wp2
    clear c0 c1 c2 c3 c4 d0 d1 d2 d3 d4
    generalize World.setCell (World.setCell _ _ _) _ _ = W3 at hR ⊢
    refine wp_region_noPanic ?_
    refine wp_region_held_drew (S := fun W => Rt w (w2.heap.size) (!FIT) Z S (!FIT) P (w.heap.size) W) (by kernel_rfl) ?_ (fun hHeld => ?_)
    · exact hR.out.drew
    generalize World.drew _ = W4 at hHeld ⊢
    refine wpAnyH_take (i := 0) (v := ?_) rfl (by kernel_rfl) (by kernel_rfl) (by kernel_rfl) (fun _ _ _ h => h) (Or.inl ⟨by kernel_rfl, ?_⟩) (by assumption) ?_
    rotate_left
    · intro w hSw
      go_simp
      try with_reducible rfl
    simp only [Act.put, List.setIfInBounds_toArray, List.set_cons_zero, List.set_cons_succ, List.getElem_toArray, List.getElem_cons_succ, List.getElem_cons_zero]
    refine wpAnyH_take (i := 1) (v := ?_) rfl (by kernel_rfl) (by kernel_rfl) (by kernel_rfl) (fun _ _ _ h => h) (Or.inl ⟨by kernel_rfl, ?_⟩) (by assumption) ?_
    rotate_left
    · intro w hSw
      obtain ⟨g0, g1, g2, g3, g4⟩ := hSw.1.c
      go_simp
      try with_reducible rfl
    simp only [Act.put, List.setIfInBounds_toArray, List.set_cons_zero, List.set_cons_succ, List.getElem_toArray, List.getElem_cons_succ, List.getElem_cons_zero]
    refine wpAnyH_ready (rs := [2]) (by kernel_rfl) (by simp) ?_
    refine AllReadyH.cons rfl (fun K hK => ?_) AllReadyH.nil
    go_simp
    refine hK.out _ _ hHeld (fun hHeld2 => ?_)
    clear hK K hHeld
    have hHeld := hHeld2
    clear hHeld2
    try simp only [Act.put, List.setIfInBounds_toArray, List.set_cons_zero, List.set_cons_succ, List.getElem_toArray, List.getElem_cons_succ, List.getElem_cons_zero]
    refine wpAnyH_ready (rs := [3]) (by kernel_rfl) (by simp) ?_
    refine AllReadyH.cons rfl (fun K hK => ?_) AllReadyH.nil
    obtain ⟨y0, y1, y2, y3, y4, hy⟩ := hHeld.2.1
    obtain ⟨g0, g1, g2, g3, g4⟩ := hy.c
    obtain ⟨f0, f1, f2, f3, f4⟩ := hy.f
    go_simp
    have h9 := Lib.hid (hHeld.put (Nat.le_refl _))
    refine hK.out _ _ h9.out.1 (fun hHeld2 => ?_)
    clear hK K hHeld hHeld2 g0 g1 g2 g3 g4 f0 f1 f2 f3 f4 hy
    try simp only [Act.put, List.setIfInBounds_toArray, List.set_cons_zero, List.set_cons_succ, List.getElem_toArray, List.getElem_cons_succ, List.getElem_cons_zero]
    refine wpAnyH_done (by kernel_rfl) ?_ _
    refine NoPanic.normal ?_
    generalize World.setCell (World.setCell (World.setCell (World.setCell (World.setCell _ _ _) _ _) _ _) _ _) _ _ = W9 at h9 ⊢
    obtain ⟨⟨_, _, hbl⟩, hF⟩ := h9.out
    obtain ⟨g0, g1, g2, g3, g4⟩ := hF.c
    clear h9
    go_wp2
    exact bodyPost_ret (v := .tuple #[.int .u64 (low : Nat), fl (!FIT) Z S (!FIT) P]) (by simp [results, Tryd.results23, go_sem, *]) rfl ⟨by rw [← HFIT.out], hbl⟩
open Go.RowKit Go.Shelf
set_option linter.unusedSimpArgs false
set_option linter.unusedVariables false
attribute [local go_sem] Oper.semAt_some
set_option maxRecDepth 100000 in
set_option maxHeartbeats 2000000 in
theorem rimul_mff (a b A B X Y low high r : Nat) (TOP : Int) (wd : Int) (Z S P u0 u1 u2 u3 u4 : Bool) (hw1 : ¬ wd < 1) (hw2 : wd < 8)
    (hA : ∀ W, Calls Tryd.prog 29 #[.int .u64 (a : Int), .int .i64 wd] W fun e w' => e = .returned (.int .u64 (A : Int)) ∧ W = w')
    (hB : ∀ W, Calls Tryd.prog 29 #[.int .u64 (b : Int), .int .i64 wd] W fun e w' => e = .returned (.int .u64 (B : Int)) ∧ W = w')
    (hsA : ∀ W, Calls Tryd.prog 39 #[.int .u64 (A : Int), .int .i64 wd] W fun e w' => e = .returned (.bool false) ∧ W = w')
    (hsB : ∀ W, Calls Tryd.prog 39 #[.int .u64 (B : Int), .int .i64 wd] W fun e w' => e = .returned (.bool false) ∧ W = w')
    (hmul : ∀ W, Calls Tryd.prog 25 #[.int .i64 wd, .int .u64 (A : Int), .int .u64 (B : Int)] W fun e w' => e = .returned (.tuple #[.int .u64 (low : Int), .int .u64 (high : Int), fl u0 u1 u2 u3 u4]) ∧ Below W.heap.size W w')
    (htop : IntKind.u64.wrap (2 ^ ((8 * wd).toNat - 1)) = TOP)
    (hlo : ∀ W, Calls Tryd.prog 13 #[.int .i64 wd, .int .u64 (low : Int)] W fun e w' => e = .returned (fl false Z S false P) ∧ Below W.heap.size W w')
    (w : World) :
    Calls Tryd.prog 23 #[.int .i64 wd, .int .u64 a, .int .u64 b] w fun e w' => e = .returned (.tuple #[.int .u64 (low : Nat), fl (!(((high : Int) == 0) && (decide ((low : Int) < TOP) || (false && ((low : Int) == TOP))))) Z S (!(((high : Int) == 0) && (decide ((low : Int) < TOP) || (false && ((low : Int) == TOP))))) P]) ∧ Below w.heap.size w w' := by
  have HA := Lib.hid hA
  have HB2 := Lib.hid hB
  have HSA := Lib.hid hsA
  have HSB := Lib.hid hsB
  have HMUL := Lib.hid hmul
  have HLO := Lib.hid hlo
  have HTOP := Lib.hid htop
  clear hA hB hsA hsB hmul hlo htop
  have hw3 : ¬ 8 < wd := by omega
  have hF := Lib.hid (F5.new w false false false false false)
  go_enter Tryd.func23, Tryd.ntmps23
  go_wp2_with (first | (go_at_call 29; (with_reducible refine (HA.out _).mono ?_); rintro e w1 ⟨rfl, rfl⟩) | (go_at_call 29; (with_reducible refine (HB2.out _).mono ?_); rintro e w1 ⟨rfl, rfl⟩) | (go_at_call 39; (with_reducible refine (HSA.out _).mono ?_); rintro e w1 ⟨rfl, rfl⟩) | (go_at_call 39; (with_reducible refine (HSB.out _).mono ?_); rintro e w1 ⟨rfl, rfl⟩))
  go_at_call 25
  refine (HMUL.out _).mono ?_
  rintro e w1 ⟨rfl, hb⟩
  have hsz := hb.size
  simp only [World.size_alloc] at hsz
  have H3 := Lib.hid ((hF.out.keep hb).alloc (Obj.cells #[.bool u0, .bool u1, .bool u2, .bool u3, .bool u4] 24))
  have H4 := Lib.hid ((((Below.refl _ w).alloc (Nat.le_refl _) fl0).trans (hb.mono (by simp))).alloc (show w.heap.size ≤ w1.heap.size by omega) (Obj.cells #[.bool u0, .bool u1, .bool u2, .bool u3, .bool u4] 24))
  clear hF hb
  go_upto_region 8 with fail
  generalize World.alloc _ _ = W1 at H3 H4 ⊢
  go_upto_region 9 with fail
  simp only [HTOP.out]
  go_cut [15] (fun q W => q = .bool (((high : Int) == 0) && (decide ((low : Int) < TOP) || (false && ((low : Int) == TOP)))) ∧ W = W1)
  case first =>
    cases q1 : ((high : Int) == 0)
    · go_wp2_with fail
      go_meet
      exact ⟨by simp [q1], rfl⟩
    · cases q2 : decide ((low : Int) < TOP)
      · go_wp2_with fail
        go_meet
        exact ⟨by simp [q1, q2], rfl⟩
      · go_wp2_with fail
        go_meet
        exact ⟨by simp [q1, q2], rfl⟩
  case rest =>
    obtain ⟨rfl, rfl⟩ := hcut
    generalize hFIT : (((high : Int) == 0) && (decide ((low : Int) < TOP) || (false && ((low : Int) == TOP)))) = FIT
    have HFIT := Lib.hid hFIT
    clear hFIT
    go_wp2_with fail
    go_at_call 13
    refine (HLO.out _).mono ?_
    rintro e w2 ⟨rfl, hb⟩
    have hsz2 := hb.size
    have hR1 := H3.out.keep hb
    have h2 := F5.new w2 false Z S false P
    have h3 := hR1.alloc (Obj.cells #[.bool false, .bool Z, .bool S, .bool false, .bool P] 24)
    have hsw := H4.out.size
    have h4 := (H4.out.trans (hb.mono hsw)).alloc (show w.heap.size ≤ w2.heap.size by omega) (Obj.cells #[.bool false, .bool Z, .bool S, .bool false, .bool P] 24)
    have hdlt := hR1.lt
    have hdst : w.heap.size < w2.heap.size := hdlt
    have H2 := Lib.hid h2
    have H3' := Lib.hid h3
    have H4' := Lib.hid h4
    clear hR1 h2 h3 h4 hb hdlt
    go_upto_region 14 with fail
    generalize World.alloc _ _ = W2 at H2 H3' H4' ⊢
    obtain ⟨c0, c1, c2, c3, c4⟩ := H2.out.c
    obtain ⟨d0, d1, d2, d3, d4⟩ := H2.out.f
    have hR : Hid (Rt w (w2.heap.size) (!FIT) Z S (!FIT) P (w.heap.size) ((W2.setCell ⟨w2.heap.size, 0, none⟩ (.bool (!FIT))).setCell ⟨w2.heap.size, 3, none⟩ (.bool (!FIT)))) := Lib.hid ⟨H2.out.set0.set3, ⟨_, _, _, _, _, (H3'.out.far (by omega)).far (by omega)⟩, (H4'.out.setCell (p := ⟨w2.heap.size, 0, none⟩) (show w.heap.size ≤ w2.heap.size by omega) _).setCell (p := ⟨w2.heap.size, 3, none⟩) (show w.heap.size ≤ w2.heap.size by omega) _⟩
    go_wp2
    clear c0 c1 c2 c3 c4 d0 d1 d2 d3 d4
    generalize World.setCell (World.setCell _ _ _) _ _ = W3 at hR ⊢
    refine wp_region_noPanic ?_
    refine wp_region_held_drew (S := fun W => Rt w (w2.heap.size) (!FIT) Z S (!FIT) P (w.heap.size) W) (by kernel_rfl) ?_ (fun hHeld => ?_)
    · exact hR.out.drew
    generalize World.drew _ = W4 at hHeld ⊢
    refine wpAnyH_take (i := 0) (v := ?_) rfl (by kernel_rfl) (by kernel_rfl) (by kernel_rfl) (fun _ _ _ h => h) (Or.inl ⟨by kernel_rfl, ?_⟩) (by assumption) ?_
    rotate_left
    · intro w hSw
      go_simp
      try with_reducible rfl
    simp only [Act.put, List.setIfInBounds_toArray, List.set_cons_zero, List.set_cons_succ, List.getElem_toArray, List.getElem_cons_succ, List.getElem_cons_zero]
    refine wpAnyH_take (i := 1) (v := ?_) rfl (by kernel_rfl) (by kernel_rfl) (by kernel_rfl) (fun _ _ _ h => h) (Or.inl ⟨by kernel_rfl, ?_⟩) (by assumption) ?_
    rotate_left
    · intro w hSw
      obtain ⟨g0, g1, g2, g3, g4⟩ := hSw.1.c
      go_simp
      try with_reducible rfl
    simp only [Act.put, List.setIfInBounds_toArray, List.set_cons_zero, List.set_cons_succ, List.getElem_toArray, List.getElem_cons_succ, List.getElem_cons_zero]
    refine wpAnyH_ready (rs := [2]) (by kernel_rfl) (by simp) ?_
    refine AllReadyH.cons rfl (fun K hK => ?_) AllReadyH.nil
    go_simp
    refine hK.out _ _ hHeld (fun hHeld2 => ?_)
    clear hK K hHeld
    have hHeld := hHeld2
    clear hHeld2
    try simp only [Act.put, List.setIfInBounds_toArray, List.set_cons_zero, List.set_cons_succ, List.getElem_toArray, List.getElem_cons_succ, List.getElem_cons_zero]
    refine wpAnyH_ready (rs := [3]) (by kernel_rfl) (by simp) ?_
    refine AllReadyH.cons rfl (fun K hK => ?_) AllReadyH.nil
    obtain ⟨y0, y1, y2, y3, y4, hy⟩ := hHeld.2.1
    obtain ⟨g0, g1, g2, g3, g4⟩ := hy.c
    obtain ⟨f0, f1, f2, f3, f4⟩ := hy.f
    go_simp
    have h9 := Lib.hid (hHeld.put (Nat.le_refl _))
    refine hK.out _ _ h9.out.1 (fun hHeld2 => ?_)
    clear hK K hHeld hHeld2 g0 g1 g2 g3 g4 f0 f1 f2 f3 f4 hy
    try simp only [Act.put, List.setIfInBounds_toArray, List.set_cons_zero, List.set_cons_succ, List.getElem_toArray, List.getElem_cons_succ, List.getElem_cons_zero]
    refine wpAnyH_done (by kernel_rfl) ?_ _
    refine NoPanic.normal ?_
    generalize World.setCell (World.setCell (World.setCell (World.setCell (World.setCell _ _ _) _ _) _ _) _ _) _ _ = W9 at h9 ⊢
    obtain ⟨⟨_, _, hbl⟩, hF⟩ := h9.out
    obtain ⟨g0, g1, g2, g3, g4⟩ := hF.c
    clear h9
    go_wp2
    exact bodyPost_ret (v := .tuple #[.int .u64 (low : Nat), fl (!FIT) Z S (!FIT) P]) (by simp [results, Tryd.results23, go_sem, *]) rfl ⟨by rw [← HFIT.out], hbl⟩
set_option maxRecDepth 100000 in
set_option maxHeartbeats 2000000 in
theorem rimul_mft (a b A B X Y low high r : Nat) (TOP : Int) (wd : Int) (Z S P u0 u1 u2 u3 u4 : Bool) (hw1 : ¬ wd < 1) (hw2 : wd < 8)
    (hA : ∀ W, Calls Tryd.prog 29 #[.int .u64 (a : Int), .int .i64 wd] W fun e w' => e = .returned (.int .u64 (A : Int)) ∧ W = w')
    (hB : ∀ W, Calls Tryd.prog 29 #[.int .u64 (b : Int), .int .i64 wd] W fun e w' => e = .returned (.int .u64 (B : Int)) ∧ W = w')
    (hsA : ∀ W, Calls Tryd.prog 39 #[.int .u64 (A : Int), .int .i64 wd] W fun e w' => e = .returned (.bool false) ∧ W = w')
    (hsB : ∀ W, Calls Tryd.prog 39 #[.int .u64 (B : Int), .int .i64 wd] W fun e w' => e = .returned (.bool true) ∧ W = w')
    (hY : ∀ W, Calls Tryd.prog 29 #[.int .u64 (IntKind.u64.wrap (-(B : Int))), .int .i64 wd] W fun e w' => e = .returned (.int .u64 (Y : Int)) ∧ W = w')
    (hmul : ∀ W, Calls Tryd.prog 25 #[.int .i64 wd, .int .u64 (A : Int), .int .u64 (Y : Int)] W fun e w' => e = .returned (.tuple #[.int .u64 (low : Int), .int .u64 (high : Int), fl u0 u1 u2 u3 u4]) ∧ Below W.heap.size W w')
    (hneg : ∀ W, Calls Tryd.prog 29 #[.int .u64 (IntKind.u64.wrap (-(low : Int))), .int .i64 wd] W fun e w' => e = .returned (.int .u64 (r : Int)) ∧ W = w')
    (htop : IntKind.u64.wrap (2 ^ ((8 * wd).toNat - 1)) = TOP)
    (hlo : ∀ W, Calls Tryd.prog 13 #[.int .i64 wd, .int .u64 (r : Int)] W fun e w' => e = .returned (fl false Z S false P) ∧ Below W.heap.size W w')
    (w : World) :
    Calls Tryd.prog 23 #[.int .i64 wd, .int .u64 a, .int .u64 b] w fun e w' => e = .returned (.tuple #[.int .u64 (r : Nat), fl (!(((high : Int) == 0) && (decide ((low : Int) < TOP) || (true && ((low : Int) == TOP))))) Z S (!(((high : Int) == 0) && (decide ((low : Int) < TOP) || (true && ((low : Int) == TOP))))) P]) ∧ Below w.heap.size w w' := by
  have HA := Lib.hid hA
  have HB2 := Lib.hid hB
  have HSA := Lib.hid hsA
  have HSB := Lib.hid hsB
  have HY := Lib.hid hY
  have HMUL := Lib.hid hmul
  have HNEG := Lib.hid hneg
  have HLO := Lib.hid hlo
  have HTOP := Lib.hid htop
  clear hA hB hsA hsB hY hmul hneg hlo htop
  have hw3 : ¬ 8 < wd := by omega
  have hF := Lib.hid (F5.new w false false false false false)
  go_enter Tryd.func23, Tryd.ntmps23
  go_wp2_with (first | (go_at_call 29; (with_reducible refine (HA.out _).mono ?_); rintro e w1 ⟨rfl, rfl⟩) | (go_at_call 29; (with_reducible refine (HB2.out _).mono ?_); rintro e w1 ⟨rfl, rfl⟩) | (go_at_call 39; (with_reducible refine (HSA.out _).mono ?_); rintro e w1 ⟨rfl, rfl⟩) | (go_at_call 39; (with_reducible refine (HSB.out _).mono ?_); rintro e w1 ⟨rfl, rfl⟩) | (go_at_call 29; (with_reducible refine (HY.out _).mono ?_); rintro e w1 ⟨rfl, rfl⟩))
  go_at_call 25
  refine (HMUL.out _).mono ?_
  rintro e w1 ⟨rfl, hb⟩
  have hsz := hb.size
  simp only [World.size_alloc] at hsz
  have H3 := Lib.hid ((hF.out.keep hb).alloc (Obj.cells #[.bool u0, .bool u1, .bool u2, .bool u3, .bool u4] 24))
  have H4 := Lib.hid ((((Below.refl _ w).alloc (Nat.le_refl _) fl0).trans (hb.mono (by simp))).alloc (show w.heap.size ≤ w1.heap.size by omega) (Obj.cells #[.bool u0, .bool u1, .bool u2, .bool u3, .bool u4] 24))
  clear hF hb
  go_upto_region 8 with fail
  generalize World.alloc _ _ = W1 at H3 H4 ⊢
  go_upto_region 9 with fail
  simp only [HTOP.out]
  go_cut [15] (fun q W => q = .bool (((high : Int) == 0) && (decide ((low : Int) < TOP) || (true && ((low : Int) == TOP)))) ∧ W = W1)
  case first =>
    cases q1 : ((high : Int) == 0)
    · go_wp2_with fail
      go_meet
      exact ⟨by simp [q1], rfl⟩
    · cases q2 : decide ((low : Int) < TOP)
      · cases q3 : ((low : Int) == TOP)
        · go_wp2_with fail
          go_meet
          exact ⟨by simp [q1, q2, q3], rfl⟩
        · go_wp2_with fail
          go_meet
          exact ⟨by simp [q1, q2, q3], rfl⟩
      · go_wp2_with fail
        go_meet
        exact ⟨by simp [q1, q2], rfl⟩
  case rest =>
    obtain ⟨rfl, rfl⟩ := hcut
    generalize hFIT : (((high : Int) == 0) && (decide ((low : Int) < TOP) || (true && ((low : Int) == TOP)))) = FIT
    have HFIT := Lib.hid hFIT
    clear hFIT
    go_wp2_with (go_at_call 29; (with_reducible refine (HNEG.out _).mono ?_); rintro e w1 ⟨rfl, rfl⟩)
    go_at_call 13
    refine (HLO.out _).mono ?_
    rintro e w2 ⟨rfl, hb⟩
    have hsz2 := hb.size
    have hR1 := H3.out.keep hb
    have h2 := F5.new w2 false Z S false P
    have h3 := hR1.alloc (Obj.cells #[.bool false, .bool Z, .bool S, .bool false, .bool P] 24)
    have hsw := H4.out.size
    have h4 := (H4.out.trans (hb.mono hsw)).alloc (show w.heap.size ≤ w2.heap.size by omega) (Obj.cells #[.bool false, .bool Z, .bool S, .bool false, .bool P] 24)
    have hdlt := hR1.lt
    have hdst : w.heap.size < w2.heap.size := hdlt
    have H2 := Lib.hid h2
    have H3' := Lib.hid h3
    have H4' := Lib.hid h4
    clear hR1 h2 h3 h4 hb hdlt
    go_upto_region 14 with fail
    generalize World.alloc _ _ = W2 at H2 H3' H4' ⊢
    obtain ⟨c0, c1, c2, c3, c4⟩ := H2.out.c
    obtain ⟨d0, d1, d2, d3, d4⟩ := H2.out.f
    have hR : Hid (Rt w (w2.heap.size) (!FIT) Z S (!FIT) P (w.heap.size) ((W2.setCell ⟨w2.heap.size, 0, none⟩ (.bool (!FIT))).setCell ⟨w2.heap.size, 3, none⟩ (.bool (!FIT)))) := Lib.hid ⟨H2.out.set0.set3, ⟨_, _, _, _, _, (H3'.out.far (by omega)).far (by omega)⟩, (H4'.out.setCell (p := ⟨w2.heap.size, 0, none⟩) (show w.heap.size ≤ w2.heap.size by omega) _).setCell (p := ⟨w2.heap.size, 3, none⟩) (show w.heap.size ≤ w2.heap.size by omega) _⟩
    go_wp2
    clear c0 c1 c2 c3 c4 d0 d1 d2 d3 d4
    generalize World.setCell (World.setCell _ _ _) _ _ = W3 at hR ⊢
    refine wp_region_noPanic ?_
    refine wp_region_held_drew (S := fun W => Rt w (w2.heap.size) (!FIT) Z S (!FIT) P (w.heap.size) W) (by kernel_rfl) ?_ (fun hHeld => ?_)
    · exact hR.out.drew
    generalize World.drew _ = W4 at hHeld ⊢
    refine wpAnyH_take (i := 0) (v := ?_) rfl (by kernel_rfl) (by kernel_rfl) (by kernel_rfl) (fun _ _ _ h => h) (Or.inl ⟨by kernel_rfl, ?_⟩) (by assumption) ?_
    rotate_left
    · intro w hSw
      go_simp
      try with_reducible rfl
    simp only [Act.put, List.setIfInBounds_toArray, List.set_cons_zero, List.set_cons_succ, List.getElem_toArray, List.getElem_cons_succ, List.getElem_cons_zero]
    refine wpAnyH_take (i := 1) (v := ?_) rfl (by kernel_rfl) (by kernel_rfl) (by kernel_rfl) (fun _ _ _ h => h) (Or.inl ⟨by kernel_rfl, ?_⟩) (by assumption) ?_
    rotate_left
    · intro w hSw
      obtain ⟨g0, g1, g2, g3, g4⟩ := hSw.1.c
      go_simp
      try with_reducible rfl
    simp only [Act.put, List.setIfInBounds_toArray, List.set_cons_zero, List.set_cons_succ, List.getElem_toArray, List.getElem_cons_succ, List.getElem_cons_zero]
    refine wpAnyH_ready (rs := [2]) (by kernel_rfl) (by simp) ?_
    refine AllReadyH.cons rfl (fun K hK => ?_) AllReadyH.nil
    go_simp
    refine hK.out _ _ hHeld (fun hHeld2 => ?_)
    clear hK K hHeld
    have hHeld := hHeld2
    clear hHeld2
    try simp only [Act.put, List.setIfInBounds_toArray, List.set_cons_zero, List.set_cons_succ, List.getElem_toArray, List.getElem_cons_succ, List.getElem_cons_zero]
    refine wpAnyH_ready (rs := [3]) (by kernel_rfl) (by simp) ?_
    refine AllReadyH.cons rfl (fun K hK => ?_) AllReadyH.nil
    obtain ⟨y0, y1, y2, y3, y4, hy⟩ := hHeld.2.1
    obtain ⟨g0, g1, g2, g3, g4⟩ := hy.c
    obtain ⟨f0, f1, f2, f3, f4⟩ := hy.f
    go_simp
    have h9 := Lib.hid (hHeld.put (Nat.le_refl _))
    refine hK.out _ _ h9.out.1 (fun hHeld2 => ?_)
    clear hK K hHeld hHeld2 g0 g1 g2 g3 g4 f0 f1 f2 f3 f4 hy
    try simp only [Act.put, List.setIfInBounds_toArray, List.set_cons_zero, List.set_cons_succ, List.getElem_toArray, List.getElem_cons_succ, List.getElem_cons_zero]
    refine wpAnyH_done (by kernel_rfl) ?_ _
    refine NoPanic.normal ?_
    generalize World.setCell (World.setCell (World.setCell (World.setCell (World.setCell _ _ _) _ _) _ _) _ _) _ _ = W9 at h9 ⊢
    obtain ⟨⟨_, _, hbl⟩, hF⟩ := h9.out
    obtain ⟨g0, g1, g2, g3, g4⟩ := hF.c
    clear h9
    go_wp2
    exact bodyPost_ret (v := .tuple #[.int .u64 (r : Nat), fl (!FIT) Z S (!FIT) P]) (by simp [results, Tryd.results23, go_sem, *]) rfl ⟨by rw [← HFIT.out], hbl⟩
set_option maxRecDepth 100000 in
set_option maxHeartbeats 2000000 in
theorem rimul_mtf (a b A B X Y low high r : Nat) (TOP : Int) (wd : Int) (Z S P u0 u1 u2 u3 u4 : Bool) (hw1 : ¬ wd < 1) (hw2 : wd < 8)
    (hA : ∀ W, Calls Tryd.prog 29 #[.int .u64 (a : Int), .int .i64 wd] W fun e w' => e = .returned (.int .u64 (A : Int)) ∧ W = w')
    (hB : ∀ W, Calls Tryd.prog 29 #[.int .u64 (b : Int), .int .i64 wd] W fun e w' => e = .returned (.int .u64 (B : Int)) ∧ W = w')
    (hsA : ∀ W, Calls Tryd.prog 39 #[.int .u64 (A : Int), .int .i64 wd] W fun e w' => e = .returned (.bool true) ∧ W = w')
    (hsB : ∀ W, Calls Tryd.prog 39 #[.int .u64 (B : Int), .int .i64 wd] W fun e w' => e = .returned (.bool false) ∧ W = w')
    (hX : ∀ W, Calls Tryd.prog 29 #[.int .u64 (IntKind.u64.wrap (-(A : Int))), .int .i64 wd] W fun e w' => e = .returned (.int .u64 (X : Int)) ∧ W = w')
    (hmul : ∀ W, Calls Tryd.prog 25 #[.int .i64 wd, .int .u64 (X : Int), .int .u64 (B : Int)] W fun e w' => e = .returned (.tuple #[.int .u64 (low : Int), .int .u64 (high : Int), fl u0 u1 u2 u3 u4]) ∧ Below W.heap.size W w')
    (hneg : ∀ W, Calls Tryd.prog 29 #[.int .u64 (IntKind.u64.wrap (-(low : Int))), .int .i64 wd] W fun e w' => e = .returned (.int .u64 (r : Int)) ∧ W = w')
    (htop : IntKind.u64.wrap (2 ^ ((8 * wd).toNat - 1)) = TOP)
    (hlo : ∀ W, Calls Tryd.prog 13 #[.int .i64 wd, .int .u64 (r : Int)] W fun e w' => e = .returned (fl false Z S false P) ∧ Below W.heap.size W w')
    (w : World) :
    Calls Tryd.prog 23 #[.int .i64 wd, .int .u64 a, .int .u64 b] w fun e w' => e = .returned (.tuple #[.int .u64 (r : Nat), fl (!(((high : Int) == 0) && (decide ((low : Int) < TOP) || (true && ((low : Int) == TOP))))) Z S (!(((high : Int) == 0) && (decide ((low : Int) < TOP) || (true && ((low : Int) == TOP))))) P]) ∧ Below w.heap.size w w' := by
  have HA := Lib.hid hA
  have HB2 := Lib.hid hB
  have HSA := Lib.hid hsA
  have HSB := Lib.hid hsB
  have HX := Lib.hid hX
  have HMUL := Lib.hid hmul
  have HNEG := Lib.hid hneg
  have HLO := Lib.hid hlo
  have HTOP := Lib.hid htop
  clear hA hB hsA hsB hX hmul hneg hlo htop
  have hw3 : ¬ 8 < wd := by omega
  have hF := Lib.hid (F5.new w false false false false false)
  go_enter Tryd.func23, Tryd.ntmps23
  go_wp2_with (first | (go_at_call 29; (with_reducible refine (HA.out _).mono ?_); rintro e w1 ⟨rfl, rfl⟩) | (go_at_call 29; (with_reducible refine (HB2.out _).mono ?_); rintro e w1 ⟨rfl, rfl⟩) | (go_at_call 39; (with_reducible refine (HSA.out _).mono ?_); rintro e w1 ⟨rfl, rfl⟩) | (go_at_call 39; (with_reducible refine (HSB.out _).mono ?_); rintro e w1 ⟨rfl, rfl⟩) | (go_at_call 29; (with_reducible refine (HX.out _).mono ?_); rintro e w1 ⟨rfl, rfl⟩))
  go_at_call 25
  refine (HMUL.out _).mono ?_
  rintro e w1 ⟨rfl, hb⟩
  have hsz := hb.size
  simp only [World.size_alloc] at hsz
  have H3 := Lib.hid ((hF.out.keep hb).alloc (Obj.cells #[.bool u0, .bool u1, .bool u2, .bool u3, .bool u4] 24))
  have H4 := Lib.hid ((((Below.refl _ w).alloc (Nat.le_refl _) fl0).trans (hb.mono (by simp))).alloc (show w.heap.size ≤ w1.heap.size by omega) (Obj.cells #[.bool u0, .bool u1, .bool u2, .bool u3, .bool u4] 24))
  clear hF hb
  go_upto_region 8 with fail
  generalize World.alloc _ _ = W1 at H3 H4 ⊢
  go_upto_region 9 with fail
  simp only [HTOP.out]
  go_cut [15] (fun q W => q = .bool (((high : Int) == 0) && (decide ((low : Int) < TOP) || (true && ((low : Int) == TOP)))) ∧ W = W1)
  case first =>
    cases q1 : ((high : Int) == 0)
    · go_wp2_with fail
      go_meet
      exact ⟨by simp [q1], rfl⟩
    · cases q2 : decide ((low : Int) < TOP)
      · cases q3 : ((low : Int) == TOP)
        · go_wp2_with fail
          go_meet
          exact ⟨by simp [q1, q2, q3], rfl⟩
        · go_wp2_with fail
          go_meet
          exact ⟨by simp [q1, q2, q3], rfl⟩
      · go_wp2_with fail
        go_meet
        exact ⟨by simp [q1, q2], rfl⟩
  case rest =>
    obtain ⟨rfl, rfl⟩ := hcut
    generalize hFIT : (((high : Int) == 0) && (decide ((low : Int) < TOP) || (true && ((low : Int) == TOP)))) = FIT
    have HFIT := Lib.hid hFIT
    clear hFIT
    go_wp2_with (go_at_call 29; (with_reducible refine (HNEG.out _).mono ?_); rintro e w1 ⟨rfl, rfl⟩)
    go_at_call 13
    refine (HLO.out _).mono ?_
    rintro e w2 ⟨rfl, hb⟩
    have hsz2 := hb.size
    have hR1 := H3.out.keep hb
    have h2 := F5.new w2 false Z S false P
    have h3 := hR1.alloc (Obj.cells #[.bool false, .bool Z, .bool S, .bool false, .bool P] 24)
    have hsw := H4.out.size
    have h4 := (H4.out.trans (hb.mono hsw)).alloc (show w.heap.size ≤ w2.heap.size by omega) (Obj.cells #[.bool false, .bool Z, .bool S, .bool false, .bool P] 24)
    have hdlt := hR1.lt
    have hdst : w.heap.size < w2.heap.size := hdlt
    have H2 := Lib.hid h2
    have H3' := Lib.hid h3
    have H4' := Lib.hid h4
    clear hR1 h2 h3 h4 hb hdlt
    go_upto_region 14 with fail
    generalize World.alloc _ _ = W2 at H2 H3' H4' ⊢
    obtain ⟨c0, c1, c2, c3, c4⟩ := H2.out.c
    obtain ⟨d0, d1, d2, d3, d4⟩ := H2.out.f
    have hR : Hid (Rt w (w2.heap.size) (!FIT) Z S (!FIT) P (w.heap.size) ((W2.setCell ⟨w2.heap.size, 0, none⟩ (.bool (!FIT))).setCell ⟨w2.heap.size, 3, none⟩ (.bool (!FIT)))) := Lib.hid ⟨H2.out.set0.set3, ⟨_, _, _, _, _, (H3'.out.far (by omega)).far (by omega)⟩, (H4'.out.setCell (p := ⟨w2.heap.size, 0, none⟩) (show w.heap.size ≤ w2.heap.size by omega) _).setCell (p := ⟨w2.heap.size, 3, none⟩) (show w.heap.size ≤ w2.heap.size by omega) _⟩
    go_wp2
    clear c0 c1 c2 c3 c4 d0 d1 d2 d3 d4
    generalize World.setCell (World.setCell _ _ _) _ _ = W3 at hR ⊢
    refine wp_region_noPanic ?_
    refine wp_region_held_drew (S := fun W => Rt w (w2.heap.size) (!FIT) Z S (!FIT) P (w.heap.size) W) (by kernel_rfl) ?_ (fun hHeld => ?_)
    · exact hR.out.drew
    generalize World.drew _ = W4 at hHeld ⊢
    refine wpAnyH_take (i := 0) (v := ?_) rfl (by kernel_rfl) (by kernel_rfl) (by kernel_rfl) (fun _ _ _ h => h) (Or.inl ⟨by kernel_rfl, ?_⟩) (by assumption) ?_
    rotate_left
    · intro w hSw
      go_simp
      try with_reducible rfl
    simp only [Act.put, List.setIfInBounds_toArray, List.set_cons_zero, List.set_cons_succ, List.getElem_toArray, List.getElem_cons_succ, List.getElem_cons_zero]
    refine wpAnyH_take (i := 1) (v := ?_) rfl (by kernel_rfl) (by kernel_rfl) (by kernel_rfl) (fun _ _ _ h => h) (Or.inl ⟨by kernel_rfl, ?_⟩) (by assumption) ?_
    rotate_left
    · intro w hSw
      obtain ⟨g0, g1, g2, g3, g4⟩ := hSw.1.c
      go_simp
      try with_reducible rfl
    simp only [Act.put, List.setIfInBounds_toArray, List.set_cons_zero, List.set_cons_succ, List.getElem_toArray, List.getElem_cons_succ, List.getElem_cons_zero]
    refine wpAnyH_ready (rs := [2]) (by kernel_rfl) (by simp) ?_
    refine AllReadyH.cons rfl (fun K hK => ?_) AllReadyH.nil
    go_simp
    refine hK.out _ _ hHeld (fun hHeld2 => ?_)
    clear hK K hHeld
    have hHeld := hHeld2
    clear hHeld2
    try simp only [Act.put, List.setIfInBounds_toArray, List.set_cons_zero, List.set_cons_succ, List.getElem_toArray, List.getElem_cons_succ, List.getElem_cons_zero]
    refine wpAnyH_ready (rs := [3]) (by kernel_rfl) (by simp) ?_
    refine AllReadyH.cons rfl (fun K hK => ?_) AllReadyH.nil
    obtain ⟨y0, y1, y2, y3, y4, hy⟩ := hHeld.2.1
    obtain ⟨g0, g1, g2, g3, g4⟩ := hy.c
    obtain ⟨f0, f1, f2, f3, f4⟩ := hy.f
    go_simp
    have h9 := Lib.hid (hHeld.put (Nat.le_refl _))
    refine hK.out _ _ h9.out.1 (fun hHeld2 => ?_)
    clear hK K hHeld hHeld2 g0 g1 g2 g3 g4 f0 f1 f2 f3 f4 hy
    try simp only [Act.put, List.setIfInBounds_toArray, List.set_cons_zero, List.set_cons_succ, List.getElem_toArray, List.getElem_cons_succ, List.getElem_cons_zero]
    refine wpAnyH_done (by kernel_rfl) ?_ _
    refine NoPanic.normal ?_
    generalize World.setCell (World.setCell (World.setCell (World.setCell (World.setCell _ _ _) _ _) _ _) _ _) _ _ = W9 at h9 ⊢
    obtain ⟨⟨_, _, hbl⟩, hF⟩ := h9.out
    obtain ⟨g0, g1, g2, g3, g4⟩ := hF.c
    clear h9
    go_wp2
    exact bodyPost_ret (v := .tuple #[.int .u64 (r : Nat), fl (!FIT) Z S (!FIT) P]) (by simp [results, Tryd.results23, go_sem, *]) rfl ⟨by rw [← HFIT.out], hbl⟩
set_option maxRecDepth 100000 in
set_option maxHeartbeats 2000000 in
theorem rimul_mtt (a b A B X Y low high r : Nat) (TOP : Int) (wd : Int) (Z S P u0 u1 u2 u3 u4 : Bool) (hw1 : ¬ wd < 1) (hw2 : wd < 8)
    (hA : ∀ W, Calls Tryd.prog 29 #[.int .u64 (a : Int), .int .i64 wd] W fun e w' => e = .returned (.int .u64 (A : Int)) ∧ W = w')
    (hB : ∀ W, Calls Tryd.prog 29 #[.int .u64 (b : Int), .int .i64 wd] W fun e w' => e = .returned (.int .u64 (B : Int)) ∧ W = w')
    (hsA : ∀ W, Calls Tryd.prog 39 #[.int .u64 (A : Int), .int .i64 wd] W fun e w' => e = .returned (.bool true) ∧ W = w')
    (hsB : ∀ W, Calls Tryd.prog 39 #[.int .u64 (B : Int), .int .i64 wd] W fun e w' => e = .returned (.bool true) ∧ W = w')
    (hX : ∀ W, Calls Tryd.prog 29 #[.int .u64 (IntKind.u64.wrap (-(A : Int))), .int .i64 wd] W fun e w' => e = .returned (.int .u64 (X : Int)) ∧ W = w')
    (hY : ∀ W, Calls Tryd.prog 29 #[.int .u64 (IntKind.u64.wrap (-(B : Int))), .int .i64 wd] W fun e w' => e = .returned (.int .u64 (Y : Int)) ∧ W = w')
    (hmul : ∀ W, Calls Tryd.prog 25 #[.int .i64 wd, .int .u64 (X : Int), .int .u64 (Y : Int)] W fun e w' => e = .returned (.tuple #[.int .u64 (low : Int), .int .u64 (high : Int), fl u0 u1 u2 u3 u4]) ∧ Below W.heap.size W w')
    (htop : IntKind.u64.wrap (2 ^ ((8 * wd).toNat - 1)) = TOP)
    (hlo : ∀ W, Calls Tryd.prog 13 #[.int .i64 wd, .int .u64 (low : Int)] W fun e w' => e = .returned (fl false Z S false P) ∧ Below W.heap.size W w')
    (w : World) :
    Calls Tryd.prog 23 #[.int .i64 wd, .int .u64 a, .int .u64 b] w fun e w' => e = .returned (.tuple #[.int .u64 (low : Nat), fl (!(((high : Int) == 0) && (decide ((low : Int) < TOP) || (false && ((low : Int) == TOP))))) Z S (!(((high : Int) == 0) && (decide ((low : Int) < TOP) || (false && ((low : Int) == TOP))))) P]) ∧ Below w.heap.size w w' := by
  have HA := Lib.hid hA
  have HB2 := Lib.hid hB
  have HSA := Lib.hid hsA
  have HSB := Lib.hid hsB
  have HX := Lib.hid hX
  have HY := Lib.hid hY
  have HMUL := Lib.hid hmul
  have HLO := Lib.hid hlo
  have HTOP := Lib.hid htop
  clear hA hB hsA hsB hX hY hmul hlo htop
  have hw3 : ¬ 8 < wd := by omega
  have hF := Lib.hid (F5.new w false false false false false)
  go_enter Tryd.func23, Tryd.ntmps23
  go_wp2_with (first | (go_at_call 29; (with_reducible refine (HA.out _).mono ?_); rintro e w1 ⟨rfl, rfl⟩) | (go_at_call 29; (with_reducible refine (HB2.out _).mono ?_); rintro e w1 ⟨rfl, rfl⟩) | (go_at_call 39; (with_reducible refine (HSA.out _).mono ?_); rintro e w1 ⟨rfl, rfl⟩) | (go_at_call 39; (with_reducible refine (HSB.out _).mono ?_); rintro e w1 ⟨rfl, rfl⟩) | (go_at_call 29; (with_reducible refine (HX.out _).mono ?_); rintro e w1 ⟨rfl, rfl⟩) | (go_at_call 29; (with_reducible refine (HY.out _).mono ?_); rintro e w1 ⟨rfl, rfl⟩))
  go_at_call 25
  refine (HMUL.out _).mono ?_
  rintro e w1 ⟨rfl, hb⟩
  have hsz := hb.size
  simp only [World.size_alloc] at hsz
  have H3 := Lib.hid ((hF.out.keep hb).alloc (Obj.cells #[.bool u0, .bool u1, .bool u2, .bool u3, .bool u4] 24))
  have H4 := Lib.hid ((((Below.refl _ w).alloc (Nat.le_refl _) fl0).trans (hb.mono (by simp))).alloc (show w.heap.size ≤ w1.heap.size by omega) (Obj.cells #[.bool u0, .bool u1, .bool u2, .bool u3, .bool u4] 24))
  clear hF hb
  go_upto_region 8 with fail
  generalize World.alloc _ _ = W1 at H3 H4 ⊢
  go_upto_region 9 with fail
  simp only [HTOP.out]
  go_cut [15] (fun q W => q = .bool (((high : Int) == 0) && (decide ((low : Int) < TOP) || (false && ((low : Int) == TOP)))) ∧ W = W1)
  case first =>
    cases q1 : ((high : Int) == 0)
    · go_wp2_with fail
      go_meet
      exact ⟨by simp [q1], rfl⟩
    · cases q2 : decide ((low : Int) < TOP)
      · go_wp2_with fail
        go_meet
        exact ⟨by simp [q1, q2], rfl⟩
      · go_wp2_with fail
        go_meet
        exact ⟨by simp [q1, q2], rfl⟩
  case rest =>
    obtain ⟨rfl, rfl⟩ := hcut
    generalize hFIT : (((high : Int) == 0) && (decide ((low : Int) < TOP) || (false && ((low : Int) == TOP)))) = FIT
    have HFIT := Lib.hid hFIT
    clear hFIT
    go_wp2_with fail
    go_at_call 13
    refine (HLO.out _).mono ?_
    rintro e w2 ⟨rfl, hb⟩
    have hsz2 := hb.size
    have hR1 := H3.out.keep hb
    have h2 := F5.new w2 false Z S false P
    have h3 := hR1.alloc (Obj.cells #[.bool false, .bool Z, .bool S, .bool false, .bool P] 24)
    have hsw := H4.out.size
    have h4 := (H4.out.trans (hb.mono hsw)).alloc (show w.heap.size ≤ w2.heap.size by omega) (Obj.cells #[.bool false, .bool Z, .bool S, .bool false, .bool P] 24)
    have hdlt := hR1.lt
    have hdst : w.heap.size < w2.heap.size := hdlt
    have H2 := Lib.hid h2
    have H3' := Lib.hid h3
    have H4' := Lib.hid h4
    clear hR1 h2 h3 h4 hb hdlt
    go_upto_region 14 with fail
    generalize World.alloc _ _ = W2 at H2 H3' H4' ⊢
    obtain ⟨c0, c1, c2, c3, c4⟩ := H2.out.c
    obtain ⟨d0, d1, d2, d3, d4⟩ := H2.out.f
    have hR : Hid (Rt w (w2.heap.size) (!FIT) Z S (!FIT) P (w.heap.size) ((W2.setCell ⟨w2.heap.size, 0, none⟩ (.bool (!FIT))).setCell ⟨w2.heap.size, 3, none⟩ (.bool (!FIT)))) := Lib.hid ⟨H2.out.set0.set3, ⟨_, _, _, _, _, (H3'.out.far (by omega)).far (by omega)⟩, (H4'.out.setCell (p := ⟨w2.heap.size, 0, none⟩) (show w.heap.size ≤ w2.heap.size by omega) _).setCell (p := ⟨w2.heap.size, 3, none⟩) (show w.heap.size ≤ w2.heap.size by omega) _⟩
    go_wp2
    clear c0 c1 c2 c3 c4 d0 d1 d2 d3 d4
    generalize World.setCell (World.setCell _ _ _) _ _ = W3 at hR ⊢
    refine wp_region_noPanic ?_
    refine wp_region_held_drew (S := fun W => Rt w (w2.heap.size) (!FIT) Z S (!FIT) P (w.heap.size) W) (by kernel_rfl) ?_ (fun hHeld => ?_)
    · exact hR.out.drew
    generalize World.drew _ = W4 at hHeld ⊢
    refine wpAnyH_take (i := 0) (v := ?_) rfl (by kernel_rfl) (by kernel_rfl) (by kernel_rfl) (fun _ _ _ h => h) (Or.inl ⟨by kernel_rfl, ?_⟩) (by assumption) ?_
    rotate_left
    · intro w hSw
      go_simp
      try with_reducible rfl
    simp only [Act.put, List.setIfInBounds_toArray, List.set_cons_zero, List.set_cons_succ, List.getElem_toArray, List.getElem_cons_succ, List.getElem_cons_zero]
    refine wpAnyH_take (i := 1) (v := ?_) rfl (by kernel_rfl) (by kernel_rfl) (by kernel_rfl) (fun _ _ _ h => h) (Or.inl ⟨by kernel_rfl, ?_⟩) (by assumption) ?_
    rotate_left
    · intro w hSw
      obtain ⟨g0, g1, g2, g3, g4⟩ := hSw.1.c
      go_simp
      try with_reducible rfl
    simp only [Act.put, List.setIfInBounds_toArray, List.set_cons_zero, List.set_cons_succ, List.getElem_toArray, List.getElem_cons_succ, List.getElem_cons_zero]
    refine wpAnyH_ready (rs := [2]) (by kernel_rfl) (by simp) ?_
    refine AllReadyH.cons rfl (fun K hK => ?_) AllReadyH.nil
    go_simp
    refine hK.out _ _ hHeld (fun hHeld2 => ?_)
    clear hK K hHeld
    have hHeld := hHeld2
    clear hHeld2
    try simp only [Act.put, List.setIfInBounds_toArray, List.set_cons_zero, List.set_cons_succ, List.getElem_toArray, List.getElem_cons_succ, List.getElem_cons_zero]
    refine wpAnyH_ready (rs := [3]) (by kernel_rfl) (by simp) ?_
    refine AllReadyH.cons rfl (fun K hK => ?_) AllReadyH.nil
    obtain ⟨y0, y1, y2, y3, y4, hy⟩ := hHeld.2.1
    obtain ⟨g0, g1, g2, g3, g4⟩ := hy.c
    obtain ⟨f0, f1, f2, f3, f4⟩ := hy.f
    go_simp
    have h9 := Lib.hid (hHeld.put (Nat.le_refl _))
    refine hK.out _ _ h9.out.1 (fun hHeld2 => ?_)
    clear hK K hHeld hHeld2 g0 g1 g2 g3 g4 f0 f1 f2 f3 f4 hy
    try simp only [Act.put, List.setIfInBounds_toArray, List.set_cons_zero, List.set_cons_succ, List.getElem_toArray, List.getElem_cons_succ, List.getElem_cons_zero]
    refine wpAnyH_done (by kernel_rfl) ?_ _
    refine NoPanic.normal ?_
    generalize World.setCell (World.setCell (World.setCell (World.setCell (World.setCell _ _ _) _ _) _ _) _ _) _ _ = W9 at h9 ⊢
    obtain ⟨⟨_, _, hbl⟩, hF⟩ := h9.out
    obtain ⟨g0, g1, g2, g3, g4⟩ := hF.c
    clear h9
    go_wp2
    exact bodyPost_ret (v := .tuple #[.int .u64 (low : Nat), fl (!FIT) Z S (!FIT) P]) (by simp [results, Tryd.results23, go_sem, *]) rfl ⟨by rw [← HFIT.out], hbl⟩
open Go.RowKit Go.Shelf
set_option linter.unusedSimpArgs false
set_option linter.unusedVariables false
attribute [local go_sem] Oper.semAt_some
set_option maxRecDepth 100000 in
set_option maxHeartbeats 2000000 in
theorem rimul_zff (a b A B X Y low high r : Nat) (TOP : Int) (wd : Int) (Z S P u0 u1 u2 u3 u4 : Bool) (hw : wd = 8)
    (hA : ∀ W, Calls Tryd.prog 29 #[.int .u64 (a : Int), .int .i64 wd] W fun e w' => e = .returned (.int .u64 (A : Int)) ∧ W = w')
    (hB : ∀ W, Calls Tryd.prog 29 #[.int .u64 (b : Int), .int .i64 wd] W fun e w' => e = .returned (.int .u64 (B : Int)) ∧ W = w')
    (hsA : ∀ W, Calls Tryd.prog 39 #[.int .u64 (A : Int), .int .i64 wd] W fun e w' => e = .returned (.bool false) ∧ W = w')
    (hsB : ∀ W, Calls Tryd.prog 39 #[.int .u64 (B : Int), .int .i64 wd] W fun e w' => e = .returned (.bool false) ∧ W = w')
    (hmul : ∀ W, Calls Tryd.prog 25 #[.int .i64 wd, .int .u64 (A : Int), .int .u64 (B : Int)] W fun e w' => e = .returned (.tuple #[.int .u64 (low : Int), .int .u64 (high : Int), fl u0 u1 u2 u3 u4]) ∧ Below W.heap.size W w')
    (hlo : ∀ W, Calls Tryd.prog 13 #[.int .i64 wd, .int .u64 (low : Int)] W fun e w' => e = .returned (fl false Z S false P) ∧ Below W.heap.size W w')
    (w : World) :
    Calls Tryd.prog 23 #[.int .i64 wd, .int .u64 a, .int .u64 b] w fun e w' => e = .returned (.tuple #[.int .u64 (low : Nat), fl (!(((high : Int) == 0) && (decide ((low : Int) < 9223372036854775808) || (false && ((low : Int) == 9223372036854775808))))) Z S (!(((high : Int) == 0) && (decide ((low : Int) < 9223372036854775808) || (false && ((low : Int) == 9223372036854775808))))) P]) ∧ Below w.heap.size w w' := by
  have HA := Lib.hid hA
  have HB2 := Lib.hid hB
  have HSA := Lib.hid hsA
  have HSB := Lib.hid hsB
  have HMUL := Lib.hid hmul
  have HLO := Lib.hid hlo
  clear hA hB hsA hsB hmul hlo
  subst hw
  have hF := Lib.hid (F5.new w false false false false false)
  go_enter Tryd.func23, Tryd.ntmps23
  go_wp2_with (first | (go_at_call 29; (with_reducible refine (HA.out _).mono ?_); rintro e w1 ⟨rfl, rfl⟩) | (go_at_call 29; (with_reducible refine (HB2.out _).mono ?_); rintro e w1 ⟨rfl, rfl⟩) | (go_at_call 39; (with_reducible refine (HSA.out _).mono ?_); rintro e w1 ⟨rfl, rfl⟩) | (go_at_call 39; (with_reducible refine (HSB.out _).mono ?_); rintro e w1 ⟨rfl, rfl⟩))
  go_at_call 25
  refine (HMUL.out _).mono ?_
  rintro e w1 ⟨rfl, hb⟩
  have hsz := hb.size
  simp only [World.size_alloc] at hsz
  have H3 := Lib.hid ((hF.out.keep hb).alloc (Obj.cells #[.bool u0, .bool u1, .bool u2, .bool u3, .bool u4] 24))
  have H4 := Lib.hid ((((Below.refl _ w).alloc (Nat.le_refl _) fl0).trans (hb.mono (by simp))).alloc (show w.heap.size ≤ w1.heap.size by omega) (Obj.cells #[.bool u0, .bool u1, .bool u2, .bool u3, .bool u4] 24))
  clear hF hb
  go_upto_region 8 with fail
  generalize World.alloc _ _ = W1 at H3 H4 ⊢
  go_upto_region 9 with fail
  go_cut [15] (fun q W => q = .bool (((high : Int) == 0) && (decide ((low : Int) < 9223372036854775808) || (false && ((low : Int) == 9223372036854775808)))) ∧ W = W1)
  case first =>
    cases q1 : ((high : Int) == 0)
    · go_wp2_with fail
      go_meet
      exact ⟨by simp [q1], rfl⟩
    · cases q2 : decide ((low : Int) < 9223372036854775808)
      · go_wp2_with fail
        go_meet
        exact ⟨by simp [q1, q2], rfl⟩
      · go_wp2_with fail
        go_meet
        exact ⟨by simp [q1, q2], rfl⟩
  case rest =>
    obtain ⟨rfl, rfl⟩ := hcut
    generalize hFIT : (((high : Int) == 0) && (decide ((low : Int) < 9223372036854775808) || (false && ((low : Int) == 9223372036854775808)))) = FIT
    have HFIT := Lib.hid hFIT
    clear hFIT
    go_wp2_with fail
    go_at_call 13
    refine (HLO.out _).mono ?_
    rintro e w2 ⟨rfl, hb⟩
    have hsz2 := hb.size
    have hR1 := H3.out.keep hb
    have h2 := F5.new w2 false Z S false P
    have h3 := hR1.alloc (Obj.cells #[.bool false, .bool Z, .bool S, .bool false, .bool P] 24)
    have hsw := H4.out.size
    have h4 := (H4.out.trans (hb.mono hsw)).alloc (show w.heap.size ≤ w2.heap.size by omega) (Obj.cells #[.bool false, .bool Z, .bool S, .bool false, .bool P] 24)
    have hdlt := hR1.lt
    have hdst : w.heap.size < w2.heap.size := hdlt
    have H2 := Lib.hid h2
    have H3' := Lib.hid h3
    have H4' := Lib.hid h4
    clear hR1 h2 h3 h4 hb hdlt
    go_upto_region 14 with fail
    generalize World.alloc _ _ = W2 at H2 H3' H4' ⊢
    obtain ⟨c0, c1, c2, c3, c4⟩ := H2.out.c
    obtain ⟨d0, d1, d2, d3, d4⟩ := H2.out.f
    have hR : Hid (Rt w (w2.heap.size) (!FIT) Z S (!FIT) P (w.heap.size) ((W2.setCell ⟨w2.heap.size, 0, none⟩ (.bool (!FIT))).setCell ⟨w2.heap.size, 3, none⟩ (.bool (!FIT)))) := Lib.hid ⟨H2.out.set0.set3, ⟨_, _, _, _, _, (H3'.out.far (by omega)).far (by omega)⟩, (H4'.out.setCell (p := ⟨w2.heap.size, 0, none⟩) (show w.heap.size ≤ w2.heap.size by omega) _).setCell (p := ⟨w2.heap.size, 3, none⟩) (show w.heap.size ≤ w2.heap.size by omega) _⟩
    go_wp2
    clear c0 c1 c2 c3 c4 d0 d1 d2 d3 d4
    generalize World.setCell (World.setCell _ _ _) _ _ = W3 at hR ⊢
    refine wp_region_noPanic ?_
    refine wp_region_held_drew (S := fun W => Rt w (w2.heap.size) (!FIT) Z S (!FIT) P (w.heap.size) W) (by kernel_rfl) ?_ (fun hHeld => ?_)
    · exact hR.out.drew
    generalize World.drew _ = W4 at hHeld ⊢
    refine wpAnyH_take (i := 0) (v := ?_) rfl (by kernel_rfl) (by kernel_rfl) (by kernel_rfl) (fun _ _ _ h => h) (Or.inl ⟨by kernel_rfl, ?_⟩) (by assumption) ?_
    rotate_left
    · intro w hSw
      go_simp
      try with_reducible rfl
    simp only [Act.put, List.setIfInBounds_toArray, List.set_cons_zero, List.set_cons_succ, List.getElem_toArray, List.getElem_cons_succ, List.getElem_cons_zero]
    refine wpAnyH_take (i := 1) (v := ?_) rfl (by kernel_rfl) (by kernel_rfl) (by kernel_rfl) (fun _ _ _ h => h) (Or.inl ⟨by kernel_rfl, ?_⟩) (by assumption) ?_
    rotate_left
    · intro w hSw
      obtain ⟨g0, g1, g2, g3, g4⟩ := hSw.1.c
      go_simp
      try with_reducible rfl
    simp only [Act.put, List.setIfInBounds_toArray, List.set_cons_zero, List.set_cons_succ, List.getElem_toArray, List.getElem_cons_succ, List.getElem_cons_zero]
    refine wpAnyH_ready (rs := [2]) (by kernel_rfl) (by simp) ?_
    refine AllReadyH.cons rfl (fun K hK => ?_) AllReadyH.nil
    go_simp
    refine hK.out _ _ hHeld (fun hHeld2 => ?_)
    clear hK K hHeld
    have hHeld := hHeld2
    clear hHeld2
    try simp only [Act.put, List.setIfInBounds_toArray, List.set_cons_zero, List.set_cons_succ, List.getElem_toArray, List.getElem_cons_succ, List.getElem_cons_zero]
    refine wpAnyH_ready (rs := [3]) (by kernel_rfl) (by simp) ?_
    refine AllReadyH.cons rfl (fun K hK => ?_) AllReadyH.nil
    obtain ⟨y0, y1, y2, y3, y4, hy⟩ := hHeld.2.1
    obtain ⟨g0, g1, g2, g3, g4⟩ := hy.c
    obtain ⟨f0, f1, f2, f3, f4⟩ := hy.f
    go_simp
    have h9 := Lib.hid (hHeld.put (Nat.le_refl _))
    refine hK.out _ _ h9.out.1 (fun hHeld2 => ?_)
    clear hK K hHeld hHeld2 g0 g1 g2 g3 g4 f0 f1 f2 f3 f4 hy
    try simp only [Act.put, List.setIfInBounds_toArray, List.set_cons_zero, List.set_cons_succ, List.getElem_toArray, List.getElem_cons_succ, List.getElem_cons_zero]
    refine wpAnyH_done (by kernel_rfl) ?_ _
    refine NoPanic.normal ?_
    generalize World.setCell (World.setCell (World.setCell (World.setCell (World.setCell _ _ _) _ _) _ _) _ _) _ _ = W9 at h9 ⊢
    obtain ⟨⟨_, _, hbl⟩, hF⟩ := h9.out
    obtain ⟨g0, g1, g2, g3, g4⟩ := hF.c
    clear h9
    go_wp2
    exact bodyPost_ret (v := .tuple #[.int .u64 (low : Nat), fl (!FIT) Z S (!FIT) P]) (by simp [results, Tryd.results23, go_sem, *]) rfl ⟨by rw [← HFIT.out], hbl⟩
set_option maxRecDepth 100000 in
set_option maxHeartbeats 2000000 in
theorem rimul_zft (a b A B X Y low high r : Nat) (TOP : Int) (wd : Int) (Z S P u0 u1 u2 u3 u4 : Bool) (hw : wd = 8)
    (hA : ∀ W, Calls Tryd.prog 29 #[.int .u64 (a : Int), .int .i64 wd] W fun e w' => e = .returned (.int .u64 (A : Int)) ∧ W = w')
    (hB : ∀ W, Calls Tryd.prog 29 #[.int .u64 (b : Int), .int .i64 wd] W fun e w' => e = .returned (.int .u64 (B : Int)) ∧ W = w')
    (hsA : ∀ W, Calls Tryd.prog 39 #[.int .u64 (A : Int), .int .i64 wd] W fun e w' => e = .returned (.bool false) ∧ W = w')
    (hsB : ∀ W, Calls Tryd.prog 39 #[.int .u64 (B : Int), .int .i64 wd] W fun e w' => e = .returned (.bool true) ∧ W = w')
    (hY : ∀ W, Calls Tryd.prog 29 #[.int .u64 (IntKind.u64.wrap (-(B : Int))), .int .i64 wd] W fun e w' => e = .returned (.int .u64 (Y : Int)) ∧ W = w')
    (hmul : ∀ W, Calls Tryd.prog 25 #[.int .i64 wd, .int .u64 (A : Int), .int .u64 (Y : Int)] W fun e w' => e = .returned (.tuple #[.int .u64 (low : Int), .int .u64 (high : Int), fl u0 u1 u2 u3 u4]) ∧ Below W.heap.size W w')
    (hneg : ∀ W, Calls Tryd.prog 29 #[.int .u64 (IntKind.u64.wrap (-(low : Int))), .int .i64 wd] W fun e w' => e = .returned (.int .u64 (r : Int)) ∧ W = w')
    (hlo : ∀ W, Calls Tryd.prog 13 #[.int .i64 wd, .int .u64 (r : Int)] W fun e w' => e = .returned (fl false Z S false P) ∧ Below W.heap.size W w')
    (w : World) :
    Calls Tryd.prog 23 #[.int .i64 wd, .int .u64 a, .int .u64 b] w fun e w' => e = .returned (.tuple #[.int .u64 (r : Nat), fl (!(((high : Int) == 0) && (decide ((low : Int) < 9223372036854775808) || (true && ((low : Int) == 9223372036854775808))))) Z S (!(((high : Int) == 0) && (decide ((low : Int) < 9223372036854775808) || (true && ((low : Int) == 9223372036854775808))))) P]) ∧ Below w.heap.size w w' := by
  have HA := Lib.hid hA
  have HB2 := Lib.hid hB
  have HSA := Lib.hid hsA
  have HSB := Lib.hid hsB
  have HY := Lib.hid hY
  have HMUL := Lib.hid hmul
  have HNEG := Lib.hid hneg
  have HLO := Lib.hid hlo
  clear hA hB hsA hsB hY hmul hneg hlo
  subst hw
  have hF := Lib.hid (F5.new w false false false false false)
  go_enter Tryd.func23, Tryd.ntmps23
  go_wp2_with (first | (go_at_call 29; (with_reducible refine (HA.out _).mono ?_); rintro e w1 ⟨rfl, rfl⟩) | (go_at_call 29; (with_reducible refine (HB2.out _).mono ?_); rintro e w1 ⟨rfl, rfl⟩) | (go_at_call 39; (with_reducible refine (HSA.out _).mono ?_); rintro e w1 ⟨rfl, rfl⟩) | (go_at_call 39; (with_reducible refine (HSB.out _).mono ?_); rintro e w1 ⟨rfl, rfl⟩) | (go_at_call 29; (with_reducible refine (HY.out _).mono ?_); rintro e w1 ⟨rfl, rfl⟩))
  go_at_call 25
  refine (HMUL.out _).mono ?_
  rintro e w1 ⟨rfl, hb⟩
  have hsz := hb.size
  simp only [World.size_alloc] at hsz
  have H3 := Lib.hid ((hF.out.keep hb).alloc (Obj.cells #[.bool u0, .bool u1, .bool u2, .bool u3, .bool u4] 24))
  have H4 := Lib.hid ((((Below.refl _ w).alloc (Nat.le_refl _) fl0).trans (hb.mono (by simp))).alloc (show w.heap.size ≤ w1.heap.size by omega) (Obj.cells #[.bool u0, .bool u1, .bool u2, .bool u3, .bool u4] 24))
  clear hF hb
  go_upto_region 8 with fail
  generalize World.alloc _ _ = W1 at H3 H4 ⊢
  go_upto_region 9 with fail
  go_cut [15] (fun q W => q = .bool (((high : Int) == 0) && (decide ((low : Int) < 9223372036854775808) || (true && ((low : Int) == 9223372036854775808)))) ∧ W = W1)
  case first =>
    cases q1 : ((high : Int) == 0)
    · go_wp2_with fail
      go_meet
      exact ⟨by simp [q1], rfl⟩
    · cases q2 : decide ((low : Int) < 9223372036854775808)
      · cases q3 : ((low : Int) == 9223372036854775808)
        · go_wp2_with fail
          go_meet
          exact ⟨by simp [q1, q2, q3], rfl⟩
        · go_wp2_with fail
          go_meet
          exact ⟨by simp [q1, q2, q3], rfl⟩
      · go_wp2_with fail
        go_meet
        exact ⟨by simp [q1, q2], rfl⟩
  case rest =>
    obtain ⟨rfl, rfl⟩ := hcut
    generalize hFIT : (((high : Int) == 0) && (decide ((low : Int) < 9223372036854775808) || (true && ((low : Int) == 9223372036854775808)))) = FIT
    have HFIT := Lib.hid hFIT
    clear hFIT
    go_wp2_with (go_at_call 29; (with_reducible refine (HNEG.out _).mono ?_); rintro e w1 ⟨rfl, rfl⟩)
    go_at_call 13
    refine (HLO.out _).mono ?_
    rintro e w2 ⟨rfl, hb⟩
    have hsz2 := hb.size
    have hR1 := H3.out.keep hb
    have h2 := F5.new w2 false Z S false P
    have h3 := hR1.alloc (Obj.cells #[.bool false, .bool Z, .bool S, .bool false, .bool P] 24)
    have hsw := H4.out.size
    have h4 := (H4.out.trans (hb.mono hsw)).alloc (show w.heap.size ≤ w2.heap.size by omega) (Obj.cells #[.bool false, .bool Z, .bool S, .bool false, .bool P] 24)
    have hdlt := hR1.lt
    have hdst : w.heap.size < w2.heap.size := hdlt
    have H2 := Lib.hid h2
    have H3' := Lib.hid h3
    have H4' := Lib.hid h4
    clear hR1 h2 h3 h4 hb hdlt
    go_upto_region 14 with fail
    generalize World.alloc _ _ = W2 at H2 H3' H4' ⊢
    obtain ⟨c0, c1, c2, c3, c4⟩ := H2.out.c
    obtain ⟨d0, d1, d2, d3, d4⟩ := H2.out.f
    have hR : Hid (Rt w (w2.heap.size) (!FIT) Z S (!FIT) P (w.heap.size) ((W2.setCell ⟨w2.heap.size, 0, none⟩ (.bool (!FIT))).setCell ⟨w2.heap.size, 3, none⟩ (.bool (!FIT)))) := Lib.hid ⟨H2.out.set0.set3, ⟨_, _, _, _, _, (H3'.out.far (by omega)).far (by omega)⟩, (H4'.out.setCell (p := ⟨w2.heap.size, 0, none⟩) (show w.heap.size ≤ w2.heap.size by omega) _).setCell (p := ⟨w2.heap.size, 3, none⟩) (show w.heap.size ≤ w2.heap.size by omega) _⟩
    go_wp2
    clear c0 c1 c2 c3 c4 d0 d1 d2 d3 d4
    generalize World.setCell (World.setCell _ _ _) _ _ = W3 at hR ⊢
    refine wp_region_noPanic ?_
    refine wp_region_held_drew (S := fun W => Rt w (w2.heap.size) (!FIT) Z S (!FIT) P (w.heap.size) W) (by kernel_rfl) ?_ (fun hHeld => ?_)
    · exact hR.out.drew
    generalize World.drew _ = W4 at hHeld ⊢
    refine wpAnyH_take (i := 0) (v := ?_) rfl (by kernel_rfl) (by kernel_rfl) (by kernel_rfl) (fun _ _ _ h => h) (Or.inl ⟨by kernel_rfl, ?_⟩) (by assumption) ?_
    rotate_left
    · intro w hSw
      go_simp
      try with_reducible rfl
    simp only [Act.put, List.setIfInBounds_toArray, List.set_cons_zero, List.set_cons_succ, List.getElem_toArray, List.getElem_cons_succ, List.getElem_cons_zero]
    refine wpAnyH_take (i := 1) (v := ?_) rfl (by kernel_rfl) (by kernel_rfl) (by kernel_rfl) (fun _ _ _ h => h) (Or.inl ⟨by kernel_rfl, ?_⟩) (by assumption) ?_
    rotate_left
    · intro w hSw
      obtain ⟨g0, g1, g2, g3, g4⟩ := hSw.1.c
      go_simp
      try with_reducible rfl
    simp only [Act.put, List.setIfInBounds_toArray, List.set_cons_zero, List.set_cons_succ, List.getElem_toArray, List.getElem_cons_succ, List.getElem_cons_zero]
    refine wpAnyH_ready (rs := [2]) (by kernel_rfl) (by simp) ?_
    refine AllReadyH.cons rfl (fun K hK => ?_) AllReadyH.nil
    go_simp
    refine hK.out _ _ hHeld (fun hHeld2 => ?_)
    clear hK K hHeld
    have hHeld := hHeld2
    clear hHeld2
    try simp only [Act.put, List.setIfInBounds_toArray, List.set_cons_zero, List.set_cons_succ, List.getElem_toArray, List.getElem_cons_succ, List.getElem_cons_zero]
    refine wpAnyH_ready (rs := [3]) (by kernel_rfl) (by simp) ?_
    refine AllReadyH.cons rfl (fun K hK => ?_) AllReadyH.nil
    obtain ⟨y0, y1, y2, y3, y4, hy⟩ := hHeld.2.1
    obtain ⟨g0, g1, g2, g3, g4⟩ := hy.c
    obtain ⟨f0, f1, f2, f3, f4⟩ := hy.f
    go_simp
    have h9 := Lib.hid (hHeld.put (Nat.le_refl _))
    refine hK.out _ _ h9.out.1 (fun hHeld2 => ?_)
    clear hK K hHeld hHeld2 g0 g1 g2 g3 g4 f0 f1 f2 f3 f4 hy
    try simp only [Act.put, List.setIfInBounds_toArray, List.set_cons_zero, List.set_cons_succ, List.getElem_toArray, List.getElem_cons_succ, List.getElem_cons_zero]
    refine wpAnyH_done (by kernel_rfl) ?_ _
    refine NoPanic.normal ?_
    generalize World.setCell (World.setCell (World.setCell (World.setCell (World.setCell _ _ _) _ _) _ _) _ _) _ _ = W9 at h9 ⊢
    obtain ⟨⟨_, _, hbl⟩, hF⟩ := h9.out
    obtain ⟨g0, g1, g2, g3, g4⟩ := hF.c
    clear h9
    go_wp2
    exact bodyPost_ret (v := .tuple #[.int .u64 (r : Nat), fl (!FIT) Z S (!FIT) P]) (by simp [results, Tryd.results23, go_sem, *]) rfl ⟨by rw [← HFIT.out], hbl⟩
set_option maxRecDepth 100000 in
set_option maxHeartbeats 2000000 in
theorem rimul_ztf (a b A B X Y low high r : Nat) (TOP : Int) (wd : Int) (Z S P u0 u1 u2 u3 u4 : Bool) (hw : wd = 8)
    (hA : ∀ W, Calls Tryd.prog 29 #[.int .u64 (a : Int), .int .i64 wd] W fun e w' => e = .returned (.int .u64 (A : Int)) ∧ W = w')
    (hB : ∀ W, Calls Tryd.prog 29 #[.int .u64 (b : Int), .int .i64 wd] W fun e w' => e = .returned (.int .u64 (B : Int)) ∧ W = w')
    (hsA : ∀ W, Calls Tryd.prog 39 #[.int .u64 (A : Int), .int .i64 wd] W fun e w' => e = .returned (.bool true) ∧ W = w')
    (hsB : ∀ W, Calls Tryd.prog 39 #[.int .u64 (B : Int), .int .i64 wd] W fun e w' => e = .returned (.bool false) ∧ W = w')
    (hX : ∀ W, Calls Tryd.prog 29 #[.int .u64 (IntKind.u64.wrap (-(A : Int))), .int .i64 wd] W fun e w' => e = .returned (.int .u64 (X : Int)) ∧ W = w')
    (hmul : ∀ W, Calls Tryd.prog 25 #[.int .i64 wd, .int .u64 (X : Int), .int .u64 (B : Int)] W fun e w' => e = .returned (.tuple #[.int .u64 (low : Int), .int .u64 (high : Int), fl u0 u1 u2 u3 u4]) ∧ Below W.heap.size W w')
    (hneg : ∀ W, Calls Tryd.prog 29 #[.int .u64 (IntKind.u64.wrap (-(low : Int))), .int .i64 wd] W fun e w' => e = .returned (.int .u64 (r : Int)) ∧ W = w')
    (hlo : ∀ W, Calls Tryd.prog 13 #[.int .i64 wd, .int .u64 (r : Int)] W fun e w' => e = .returned (fl false Z S false P) ∧ Below W.heap.size W w')
    (w : World) :
    Calls Tryd.prog 23 #[.int .i64 wd, .int .u64 a, .int .u64 b] w fun e w' => e = .returned (.tuple #[.int .u64 (r : Nat), fl (!(((high : Int) == 0) && (decide ((low : Int) < 9223372036854775808) || (true && ((low : Int) == 9223372036854775808))))) Z S (!(((high : Int) == 0) && (decide ((low : Int) < 9223372036854775808) || (true && ((low : Int) == 9223372036854775808))))) P]) ∧ Below w.heap.size w w' := by
  have HA := Lib.hid hA
  have HB2 := Lib.hid hB
  have HSA := Lib.hid hsA
  have HSB := Lib.hid hsB
  have HX := Lib.hid hX
  have HMUL := Lib.hid hmul
  have HNEG := Lib.hid hneg
  have HLO := Lib.hid hlo
  clear hA hB hsA hsB hX hmul hneg hlo
  subst hw
  have hF := Lib.hid (F5.new w false false false false false)
  go_enter Tryd.func23, Tryd.ntmps23
  go_wp2_with (first | (go_at_call 29; (with_reducible refine (HA.out _).mono ?_); rintro e w1 ⟨rfl, rfl⟩) | (go_at_call 29; (with_reducible refine (HB2.out _).mono ?_); rintro e w1 ⟨rfl, rfl⟩) | (go_at_call 39; (with_reducible refine (HSA.out _).mono ?_); rintro e w1 ⟨rfl, rfl⟩) | (go_at_call 39; (with_reducible refine (HSB.out _).mono ?_); rintro e w1 ⟨rfl, rfl⟩) | (go_at_call 29; (with_reducible refine (HX.out _).mono ?_); rintro e w1 ⟨rfl, rfl⟩))
  go_at_call 25
  refine (HMUL.out _).mono ?_
  rintro e w1 ⟨rfl, hb⟩
  have hsz := hb.size
  simp only [World.size_alloc] at hsz
  have H3 := Lib.hid ((hF.out.keep hb).alloc (Obj.cells #[.bool u0, .bool u1, .bool u2, .bool u3, .bool u4] 24))
  have H4 := Lib.hid ((((Below.refl _ w).alloc (Nat.le_refl _) fl0).trans (hb.mono (by simp))).alloc (show w.heap.size ≤ w1.heap.size by omega) (Obj.cells #[.bool u0, .bool u1, .bool u2, .bool u3, .bool u4] 24))
  clear hF hb
  go_upto_region 8 with fail
  generalize World.alloc _ _ = W1 at H3 H4 ⊢
  go_upto_region 9 with fail
  go_cut [15] (fun q W => q = .bool (((high : Int) == 0) && (decide ((low : Int) < 9223372036854775808) || (true && ((low : Int) == 9223372036854775808)))) ∧ W = W1)
  case first =>
    cases q1 : ((high : Int) == 0)
    · go_wp2_with fail
      go_meet
      exact ⟨by simp [q1], rfl⟩
    · cases q2 : decide ((low : Int) < 9223372036854775808)
      · cases q3 : ((low : Int) == 9223372036854775808)
        · go_wp2_with fail
          go_meet
          exact ⟨by simp [q1, q2, q3], rfl⟩
        · go_wp2_with fail
          go_meet
          exact ⟨by simp [q1, q2, q3], rfl⟩
      · go_wp2_with fail
        go_meet
        exact ⟨by simp [q1, q2], rfl⟩
  case rest =>
    obtain ⟨rfl, rfl⟩ := hcut
    generalize hFIT : (((high : Int) == 0) && (decide ((low : Int) < 9223372036854775808) || (true && ((low : Int) == 9223372036854775808)))) = FIT
    have HFIT := Lib.hid hFIT
    clear hFIT
    go_wp2_with (go_at_call 29; (with_reducible refine (HNEG.out _).mono ?_); rintro e w1 ⟨rfl, rfl⟩)
    go_at_call 13
    refine (HLO.out _).mono ?_
    rintro e w2 ⟨rfl, hb⟩
    have hsz2 := hb.size
    have hR1 := H3.out.keep hb
    have h2 := F5.new w2 false Z S false P
    have h3 := hR1.alloc (Obj.cells #[.bool false, .bool Z, .bool S, .bool false, .bool P] 24)
    have hsw := H4.out.size
    have h4 := (H4.out.trans (hb.mono hsw)).alloc (show w.heap.size ≤ w2.heap.size by omega) (Obj.cells #[.bool false, .bool Z, .bool S, .bool false, .bool P] 24)
    have hdlt := hR1.lt
    have hdst : w.heap.size < w2.heap.size := hdlt
    have H2 := Lib.hid h2
    have H3' := Lib.hid h3
    have H4' := Lib.hid h4
    clear hR1 h2 h3 h4 hb hdlt
    go_upto_region 14 with fail
    generalize World.alloc _ _ = W2 at H2 H3' H4' ⊢
    obtain ⟨c0, c1, c2, c3, c4⟩ := H2.out.c
    obtain ⟨d0, d1, d2, d3, d4⟩ := H2.out.f
    have hR : Hid (Rt w (w2.heap.size) (!FIT) Z S (!FIT) P (w.heap.size) ((W2.setCell ⟨w2.heap.size, 0, none⟩ (.bool (!FIT))).setCell ⟨w2.heap.size, 3, none⟩ (.bool (!FIT)))) := Lib.hid ⟨H2.out.set0.set3, ⟨_, _, _, _, _, (H3'.out.far (by omega)).far (by omega)⟩, (H4'.out.setCell (p := ⟨w2.heap.size, 0, none⟩) (show w.heap.size ≤ w2.heap.size by omega) _).setCell (p := ⟨w2.heap.size, 3, none⟩) (show w.heap.size ≤ w2.heap.size by omega) _⟩
    go_wp2
    clear c0 c1 c2 c3 c4 d0 d1 d2 d3 d4
    generalize World.setCell (World.setCell _ _ _) _ _ = W3 at hR ⊢
    refine wp_region_noPanic ?_
    refine wp_region_held_drew (S := fun W => Rt w (w2.heap.size) (!FIT) Z S (!FIT) P (w.heap.size) W) (by kernel_rfl) ?_ (fun hHeld => ?_)
    · exact hR.out.drew
    generalize World.drew _ = W4 at hHeld ⊢
    refine wpAnyH_take (i := 0) (v := ?_) rfl (by kernel_rfl) (by kernel_rfl) (by kernel_rfl) (fun _ _ _ h => h) (Or.inl ⟨by kernel_rfl, ?_⟩) (by assumption) ?_
    rotate_left
    · intro w hSw
      go_simp
      try with_reducible rfl
    simp only [Act.put, List.setIfInBounds_toArray, List.set_cons_zero, List.set_cons_succ, List.getElem_toArray, List.getElem_cons_succ, List.getElem_cons_zero]
    refine wpAnyH_take (i := 1) (v := ?_) rfl (by kernel_rfl) (by kernel_rfl) (by kernel_rfl) (fun _ _ _ h => h) (Or.inl ⟨by kernel_rfl, ?_⟩) (by assumption) ?_
    rotate_left
    · intro w hSw
      obtain ⟨g0, g1, g2, g3, g4⟩ := hSw.1.c
      go_simp
      try with_reducible rfl
    simp only [Act.put, List.setIfInBounds_toArray, List.set_cons_zero, List.set_cons_succ, List.getElem_toArray, List.getElem_cons_succ, List.getElem_cons_zero]
    refine wpAnyH_ready (rs := [2]) (by kernel_rfl) (by simp) ?_
    refine AllReadyH.cons rfl (fun K hK => ?_) AllReadyH.nil
    go_simp
    refine hK.out _ _ hHeld (fun hHeld2 => ?_)
    clear hK K hHeld
    have hHeld := hHeld2
    clear hHeld2
    try simp only [Act.put, List.setIfInBounds_toArray, List.set_cons_zero, List.set_cons_succ, List.getElem_toArray, List.getElem_cons_succ, List.getElem_cons_zero]
    refine wpAnyH_ready (rs := [3]) (by kernel_rfl) (by simp) ?_
    refine AllReadyH.cons rfl (fun K hK => ?_) AllReadyH.nil
    obtain ⟨y0, y1, y2, y3, y4, hy⟩ := hHeld.2.1
    obtain ⟨g0, g1, g2, g3, g4⟩ := hy.c
    obtain ⟨f0, f1, f2, f3, f4⟩ := hy.f
    go_simp
    have h9 := Lib.hid (hHeld.put (Nat.le_refl _))
    refine hK.out _ _ h9.out.1 (fun hHeld2 => ?_)
    clear hK K hHeld hHeld2 g0 g1 g2 g3 g4 f0 f1 f2 f3 f4 hy
    try simp only [Act.put, List.setIfInBounds_toArray, List.set_cons_zero, List.set_cons_succ, List.getElem_toArray, List.getElem_cons_succ, List.getElem_cons_zero]
    refine wpAnyH_done (by kernel_rfl) ?_ _
    refine NoPanic.normal ?_
    generalize World.setCell (World.setCell (World.setCell (World.setCell (World.setCell _ _ _) _ _) _ _) _ _) _ _ = W9 at h9 ⊢
    obtain ⟨⟨_, _, hbl⟩, hF⟩ := h9.out
    obtain ⟨g0, g1, g2, g3, g4⟩ := hF.c
    clear h9
    go_wp2
    exact bodyPost_ret (v := .tuple #[.int .u64 (r : Nat), fl (!FIT) Z S (!FIT) P]) (by simp [results, Tryd.results23, go_sem, *]) rfl ⟨by rw [← HFIT.out], hbl⟩
set_option maxRecDepth 100000 in
set_option maxHeartbeats 2000000 in
theorem rimul_ztt (a b A B X Y low high r : Nat) (TOP : Int) (wd : Int) (Z S P u0 u1 u2 u3 u4 : Bool) (hw : wd = 8)
    (hA : ∀ W, Calls Tryd.prog 29 #[.int .u64 (a : Int), .int .i64 wd] W fun e w' => e = .returned (.int .u64 (A : Int)) ∧ W = w')
    (hB : ∀ W, Calls Tryd.prog 29 #[.int .u64 (b : Int), .int .i64 wd] W fun e w' => e = .returned (.int .u64 (B : Int)) ∧ W = w')
    (hsA : ∀ W, Calls Tryd.prog 39 #[.int .u64 (A : Int), .int .i64 wd] W fun e w' => e = .returned (.bool true) ∧ W = w')
    (hsB : ∀ W, Calls Tryd.prog 39 #[.int .u64 (B : Int), .int .i64 wd] W fun e w' => e = .returned (.bool true) ∧ W = w')
    (hX : ∀ W, Calls Tryd.prog 29 #[.int .u64 (IntKind.u64.wrap (-(A : Int))), .int .i64 wd] W fun e w' => e = .returned (.int .u64 (X : Int)) ∧ W = w')
    (hY : ∀ W, Calls Tryd.prog 29 #[.int .u64 (IntKind.u64.wrap (-(B : Int))), .int .i64 wd] W fun e w' => e = .returned (.int .u64 (Y : Int)) ∧ W = w')
    (hmul : ∀ W, Calls Tryd.prog 25 #[.int .i64 wd, .int .u64 (X : Int), .int .u64 (Y : Int)] W fun e w' => e = .returned (.tuple #[.int .u64 (low : Int), .int .u64 (high : Int), fl u0 u1 u2 u3 u4]) ∧ Below W.heap.size W w')
    (hlo : ∀ W, Calls Tryd.prog 13 #[.int .i64 wd, .int .u64 (low : Int)] W fun e w' => e = .returned (fl false Z S false P) ∧ Below W.heap.size W w')
    (w : World) :
    Calls Tryd.prog 23 #[.int .i64 wd, .int .u64 a, .int .u64 b] w fun e w' => e = .returned (.tuple #[.int .u64 (low : Nat), fl (!(((high : Int) == 0) && (decide ((low : Int) < 9223372036854775808) || (false && ((low : Int) == 9223372036854775808))))) Z S (!(((high : Int) == 0) && (decide ((low : Int) < 9223372036854775808) || (false && ((low : Int) == 9223372036854775808))))) P]) ∧ Below w.heap.size w w' := by
  have HA := Lib.hid hA
  have HB2 := Lib.hid hB
  have HSA := Lib.hid hsA
  have HSB := Lib.hid hsB
  have HX := Lib.hid hX
  have HY := Lib.hid hY
  have HMUL := Lib.hid hmul
  have HLO := Lib.hid hlo
  clear hA hB hsA hsB hX hY hmul hlo
  subst hw
  have hF := Lib.hid (F5.new w false false false false false)
  go_enter Tryd.func23, Tryd.ntmps23
  go_wp2_with (first | (go_at_call 29; (with_reducible refine (HA.out _).mono ?_); rintro e w1 ⟨rfl, rfl⟩) | (go_at_call 29; (with_reducible refine (HB2.out _).mono ?_); rintro e w1 ⟨rfl, rfl⟩) | (go_at_call 39; (with_reducible refine (HSA.out _).mono ?_); rintro e w1 ⟨rfl, rfl⟩) | (go_at_call 39; (with_reducible refine (HSB.out _).mono ?_); rintro e w1 ⟨rfl, rfl⟩) | (go_at_call 29; (with_reducible refine (HX.out _).mono ?_); rintro e w1 ⟨rfl, rfl⟩) | (go_at_call 29; (with_reducible refine (HY.out _).mono ?_); rintro e w1 ⟨rfl, rfl⟩))
  go_at_call 25
  refine (HMUL.out _).mono ?_
  rintro e w1 ⟨rfl, hb⟩
  have hsz := hb.size
  simp only [World.size_alloc] at hsz
  have H3 := Lib.hid ((hF.out.keep hb).alloc (Obj.cells #[.bool u0, .bool u1, .bool u2, .bool u3, .bool u4] 24))
  have H4 := Lib.hid ((((Below.refl _ w).alloc (Nat.le_refl _) fl0).trans (hb.mono (by simp))).alloc (show w.heap.size ≤ w1.heap.size by omega) (Obj.cells #[.bool u0, .bool u1, .bool u2, .bool u3, .bool u4] 24))
  clear hF hb
  go_upto_region 8 with fail
  generalize World.alloc _ _ = W1 at H3 H4 ⊢
  go_upto_region 9 with fail
  go_cut [15] (fun q W => q = .bool (((high : Int) == 0) && (decide ((low : Int) < 9223372036854775808) || (false && ((low : Int) == 9223372036854775808)))) ∧ W = W1)
  case first =>
    cases q1 : ((high : Int) == 0)
    · go_wp2_with fail
      go_meet
      exact ⟨by simp [q1], rfl⟩
    · cases q2 : decide ((low : Int) < 9223372036854775808)
      · go_wp2_with fail
        go_meet
        exact ⟨by simp [q1, q2], rfl⟩
      · go_wp2_with fail
        go_meet
        exact ⟨by simp [q1, q2], rfl⟩
  case rest =>
    obtain ⟨rfl, rfl⟩ := hcut
    generalize hFIT : (((high : Int) == 0) && (decide ((low : Int) < 9223372036854775808) || (false && ((low : Int) == 9223372036854775808)))) = FIT
    have HFIT := Lib.hid hFIT
    clear hFIT
    go_wp2_with fail
    go_at_call 13
    refine (HLO.out _).mono ?_
    rintro e w2 ⟨rfl, hb⟩
    have hsz2 := hb.size
    have hR1 := H3.out.keep hb
    have h2 := F5.new w2 false Z S false P
    have h3 := hR1.alloc (Obj.cells #[.bool false, .bool Z, .bool S, .bool false, .bool P] 24)
    have hsw := H4.out.size
    have h4 := (H4.out.trans (hb.mono hsw)).alloc (show w.heap.size ≤ w2.heap.size by omega) (Obj.cells #[.bool false, .bool Z, .bool S, .bool false, .bool P] 24)
    have hdlt := hR1.lt
    have hdst : w.heap.size < w2.heap.size := hdlt
    have H2 := Lib.hid h2
    have H3' := Lib.hid h3
    have H4' := Lib.hid h4
    clear hR1 h2 h3 h4 hb hdlt
    go_upto_region 14 with fail
    generalize World.alloc _ _ = W2 at H2 H3' H4' ⊢
    obtain ⟨c0, c1, c2, c3, c4⟩ := H2.out.c
    obtain ⟨d0, d1, d2, d3, d4⟩ := H2.out.f
    have hR : Hid (Rt w (w2.heap.size) (!FIT) Z S (!FIT) P (w.heap.size) ((W2.setCell ⟨w2.heap.size, 0, none⟩ (.bool (!FIT))).setCell ⟨w2.heap.size, 3, none⟩ (.bool (!FIT)))) := Lib.hid ⟨H2.out.set0.set3, ⟨_, _, _, _, _, (H3'.out.far (by omega)).far (by omega)⟩, (H4'.out.setCell (p := ⟨w2.heap.size, 0, none⟩) (show w.heap.size ≤ w2.heap.size by omega) _).setCell (p := ⟨w2.heap.size, 3, none⟩) (show w.heap.size ≤ w2.heap.size by omega) _⟩
    go_wp2
    clear c0 c1 c2 c3 c4 d0 d1 d2 d3 d4
    generalize World.setCell (World.setCell _ _ _) _ _ = W3 at hR ⊢
    refine wp_region_noPanic ?_
    refine wp_region_held_drew (S := fun W => Rt w (w2.heap.size) (!FIT) Z S (!FIT) P (w.heap.size) W) (by kernel_rfl) ?_ (fun hHeld => ?_)
    · exact hR.out.drew
    generalize World.drew _ = W4 at hHeld ⊢
    refine wpAnyH_take (i := 0) (v := ?_) rfl (by kernel_rfl) (by kernel_rfl) (by kernel_rfl) (fun _ _ _ h => h) (Or.inl ⟨by kernel_rfl, ?_⟩) (by assumption) ?_
    rotate_left
    · intro w hSw
      go_simp
      try with_reducible rfl
    simp only [Act.put, List.setIfInBounds_toArray, List.set_cons_zero, List.set_cons_succ, List.getElem_toArray, List.getElem_cons_succ, List.getElem_cons_zero]
    refine wpAnyH_take (i := 1) (v := ?_) rfl (by kernel_rfl) (by kernel_rfl) (by kernel_rfl) (fun _ _ _ h => h) (Or.inl ⟨by kernel_rfl, ?_⟩) (by assumption) ?_
    rotate_left
    · intro w hSw
      obtain ⟨g0, g1, g2, g3, g4⟩ := hSw.1.c
      go_simp
      try with_reducible rfl
    simp only [Act.put, List.setIfInBounds_toArray, List.set_cons_zero, List.set_cons_succ, List.getElem_toArray, List.getElem_cons_succ, List.getElem_cons_zero]
    refine wpAnyH_ready (rs := [2]) (by kernel_rfl) (by simp) ?_
    refine AllReadyH.cons rfl (fun K hK => ?_) AllReadyH.nil
    go_simp
    refine hK.out _ _ hHeld (fun hHeld2 => ?_)
    clear hK K hHeld
    have hHeld := hHeld2
    clear hHeld2
    try simp only [Act.put, List.setIfInBounds_toArray, List.set_cons_zero, List.set_cons_succ, List.getElem_toArray, List.getElem_cons_succ, List.getElem_cons_zero]
    refine wpAnyH_ready (rs := [3]) (by kernel_rfl) (by simp) ?_
    refine AllReadyH.cons rfl (fun K hK => ?_) AllReadyH.nil
    obtain ⟨y0, y1, y2, y3, y4, hy⟩ := hHeld.2.1
    obtain ⟨g0, g1, g2, g3, g4⟩ := hy.c
    obtain ⟨f0, f1, f2, f3, f4⟩ := hy.f
    go_simp
    have h9 := Lib.hid (hHeld.put (Nat.le_refl _))
    refine hK.out _ _ h9.out.1 (fun hHeld2 => ?_)
    clear hK K hHeld hHeld2 g0 g1 g2 g3 g4 f0 f1 f2 f3 f4 hy
    try simp only [Act.put, List.setIfInBounds_toArray, List.set_cons_zero, List.set_cons_succ, List.getElem_toArray, List.getElem_cons_succ, List.getElem_cons_zero]
    refine wpAnyH_done (by kernel_rfl) ?_ _
    refine NoPanic.normal ?_
    generalize World.setCell (World.setCell (World.setCell (World.setCell (World.setCell _ _ _) _ _) _ _) _ _) _ _ = W9 at h9 ⊢
    obtain ⟨⟨_, _, hbl⟩, hF⟩ := h9.out
    obtain ⟨g0, g1, g2, g3, g4⟩ := hF.c
    clear h9
    go_wp2
    exact bodyPost_ret (v := .tuple #[.int .u64 (low : Nat), fl (!FIT) Z S (!FIT) P]) (by simp [results, Tryd.results23, go_sem, *]) rfl ⟨by rw [← HFIT.out], hbl⟩
open Go.RowKit Go.Shelf
set_option linter.unusedSimpArgs false
set_option linter.unusedVariables false
attribute [local go_sem] Oper.semAt_some
set_option maxRecDepth 100000 in
set_option maxHeartbeats 2000000 in
theorem rimul_yff (a b A B X Y low high r : Nat) (TOP : Int) (wd : Int) (Z S P u0 u1 u2 u3 u4 : Bool) (hw4 : wd - 9 ≥ 0)
    (hA : ∀ W, Calls Tryd.prog 29 #[.int .u64 (a : Int), .int .i64 wd] W fun e w' => e = .returned (.int .u64 (A : Int)) ∧ W = w')
    (hB : ∀ W, Calls Tryd.prog 29 #[.int .u64 (b : Int), .int .i64 wd] W fun e w' => e = .returned (.int .u64 (B : Int)) ∧ W = w')
    (hsA : ∀ W, Calls Tryd.prog 39 #[.int .u64 (A : Int), .int .i64 wd] W fun e w' => e = .returned (.bool false) ∧ W = w')
    (hsB : ∀ W, Calls Tryd.prog 39 #[.int .u64 (B : Int), .int .i64 wd] W fun e w' => e = .returned (.bool false) ∧ W = w')
    (hmul : ∀ W, Calls Tryd.prog 25 #[.int .i64 wd, .int .u64 (A : Int), .int .u64 (B : Int)] W fun e w' => e = .returned (.tuple #[.int .u64 (low : Int), .int .u64 (high : Int), fl u0 u1 u2 u3 u4]) ∧ Below W.heap.size W w')
    (hlo : ∀ W, Calls Tryd.prog 13 #[.int .i64 wd, .int .u64 (low : Int)] W fun e w' => e = .returned (fl false Z S false P) ∧ Below W.heap.size W w')
    (w : World) :
    Calls Tryd.prog 23 #[.int .i64 wd, .int .u64 a, .int .u64 b] w fun e w' => e = .returned (.tuple #[.int .u64 (low : Nat), fl (!(((high : Int) == 0) && (decide ((low : Int) < 9223372036854775808) || (false && ((low : Int) == 9223372036854775808))))) Z S (!(((high : Int) == 0) && (decide ((low : Int) < 9223372036854775808) || (false && ((low : Int) == 9223372036854775808))))) P]) ∧ Below w.heap.size w w' := by
  have HA := Lib.hid hA
  have HB2 := Lib.hid hB
  have HSA := Lib.hid hsA
  have HSB := Lib.hid hsB
  have HMUL := Lib.hid hmul
  have HLO := Lib.hid hlo
  clear hA hB hsA hsB hmul hlo
  have hw1 : ¬ wd < 1 := by omega
  have hF := Lib.hid (F5.new w false false false false false)
  go_enter Tryd.func23, Tryd.ntmps23
  go_wp2_with (first | (go_at_call 29; (with_reducible refine (HA.out _).mono ?_); rintro e w1 ⟨rfl, rfl⟩) | (go_at_call 29; (with_reducible refine (HB2.out _).mono ?_); rintro e w1 ⟨rfl, rfl⟩) | (go_at_call 39; (with_reducible refine (HSA.out _).mono ?_); rintro e w1 ⟨rfl, rfl⟩) | (go_at_call 39; (with_reducible refine (HSB.out _).mono ?_); rintro e w1 ⟨rfl, rfl⟩))
  go_at_call 25
  refine (HMUL.out _).mono ?_
  rintro e w1 ⟨rfl, hb⟩
  have hsz := hb.size
  simp only [World.size_alloc] at hsz
  have H3 := Lib.hid ((hF.out.keep hb).alloc (Obj.cells #[.bool u0, .bool u1, .bool u2, .bool u3, .bool u4] 24))
  have H4 := Lib.hid ((((Below.refl _ w).alloc (Nat.le_refl _) fl0).trans (hb.mono (by simp))).alloc (show w.heap.size ≤ w1.heap.size by omega) (Obj.cells #[.bool u0, .bool u1, .bool u2, .bool u3, .bool u4] 24))
  clear hF hb
  go_upto_region 8 with fail
  generalize World.alloc _ _ = W1 at H3 H4 ⊢
  go_upto_region 9 with fail
  go_cut [15] (fun q W => q = .bool (((high : Int) == 0) && (decide ((low : Int) < 9223372036854775808) || (false && ((low : Int) == 9223372036854775808)))) ∧ W = W1)
  case first =>
    cases q1 : ((high : Int) == 0)
    · go_wp2_with fail
      go_meet
      exact ⟨by simp [q1], rfl⟩
    · cases q2 : decide ((low : Int) < 9223372036854775808)
      · go_wp2_with fail
        go_meet
        exact ⟨by simp [q1, q2], rfl⟩
      · go_wp2_with fail
        go_meet
        exact ⟨by simp [q1, q2], rfl⟩
  case rest =>
    obtain ⟨rfl, rfl⟩ := hcut
    generalize hFIT : (((high : Int) == 0) && (decide ((low : Int) < 9223372036854775808) || (false && ((low : Int) == 9223372036854775808)))) = FIT
    have HFIT := Lib.hid hFIT
    clear hFIT
    go_wp2_with fail
    go_at_call 13
    refine (HLO.out _).mono ?_
    rintro e w2 ⟨rfl, hb⟩
    have hsz2 := hb.size
    have hR1 := H3.out.keep hb
    have h2 := F5.new w2 false Z S false P
    have h3 := hR1.alloc (Obj.cells #[.bool false, .bool Z, .bool S, .bool false, .bool P] 24)
    have hsw := H4.out.size
    have h4 := (H4.out.trans (hb.mono hsw)).alloc (show w.heap.size ≤ w2.heap.size by omega) (Obj.cells #[.bool false, .bool Z, .bool S, .bool false, .bool P] 24)
    have hdlt := hR1.lt
    have hdst : w.heap.size < w2.heap.size := hdlt
    have H2 := Lib.hid h2
    have H3' := Lib.hid h3
    have H4' := Lib.hid h4
    clear hR1 h2 h3 h4 hb hdlt
    go_upto_region 14 with fail
    generalize World.alloc _ _ = W2 at H2 H3' H4' ⊢
    obtain ⟨c0, c1, c2, c3, c4⟩ := H2.out.c
    obtain ⟨d0, d1, d2, d3, d4⟩ := H2.out.f
    have hR : Hid (Rt w (w2.heap.size) (!FIT) Z S (!FIT) P (w.heap.size) ((W2.setCell ⟨w2.heap.size, 0, none⟩ (.bool (!FIT))).setCell ⟨w2.heap.size, 3, none⟩ (.bool (!FIT)))) := Lib.hid ⟨H2.out.set0.set3, ⟨_, _, _, _, _, (H3'.out.far (by omega)).far (by omega)⟩, (H4'.out.setCell (p := ⟨w2.heap.size, 0, none⟩) (show w.heap.size ≤ w2.heap.size by omega) _).setCell (p := ⟨w2.heap.size, 3, none⟩) (show w.heap.size ≤ w2.heap.size by omega) _⟩
    go_wp2
    clear c0 c1 c2 c3 c4 d0 d1 d2 d3 d4
    generalize World.setCell (World.setCell _ _ _) _ _ = W3 at hR ⊢
    refine wp_region_noPanic ?_
    refine wp_region_held_drew (S := fun W => Rt w (w2.heap.size) (!FIT) Z S (!FIT) P (w.heap.size) W) (by kernel_rfl) ?_ (fun hHeld => ?_)
    · exact hR.out.drew
    generalize World.drew _ = W4 at hHeld ⊢
    refine wpAnyH_take (i := 0) (v := ?_) rfl (by kernel_rfl) (by kernel_rfl) (by kernel_rfl) (fun _ _ _ h => h) (Or.inl ⟨by kernel_rfl, ?_⟩) (by assumption) ?_
    rotate_left
    · intro w hSw
      go_simp
      try with_reducible rfl
    simp only [Act.put, List.setIfInBounds_toArray, List.set_cons_zero, List.set_cons_succ, List.getElem_toArray, List.getElem_cons_succ, List.getElem_cons_zero]
    refine wpAnyH_take (i := 1) (v := ?_) rfl (by kernel_rfl) (by kernel_rfl) (by kernel_rfl) (fun _ _ _ h => h) (Or.inl ⟨by kernel_rfl, ?_⟩) (by assumption) ?_
    rotate_left
    · intro w hSw
      obtain ⟨g0, g1, g2, g3, g4⟩ := hSw.1.c
      go_simp
      try with_reducible rfl
    simp only [Act.put, List.setIfInBounds_toArray, List.set_cons_zero, List.set_cons_succ, List.getElem_toArray, List.getElem_cons_succ, List.getElem_cons_zero]
    refine wpAnyH_ready (rs := [2]) (by kernel_rfl) (by simp) ?_
    refine AllReadyH.cons rfl (fun K hK => ?_) AllReadyH.nil
    go_simp
    refine hK.out _ _ hHeld (fun hHeld2 => ?_)
    clear hK K hHeld
    have hHeld := hHeld2
    clear hHeld2
    try simp only [Act.put, List.setIfInBounds_toArray, List.set_cons_zero, List.set_cons_succ, List.getElem_toArray, List.getElem_cons_succ, List.getElem_cons_zero]
    refine wpAnyH_ready (rs := [3]) (by kernel_rfl) (by simp) ?_
    refine AllReadyH.cons rfl (fun K hK => ?_) AllReadyH.nil
    obtain ⟨y0, y1, y2, y3, y4, hy⟩ := hHeld.2.1
    obtain ⟨g0, g1, g2, g3, g4⟩ := hy.c
    obtain ⟨f0, f1, f2, f3, f4⟩ := hy.f
    go_simp
    have h9 := Lib.hid (hHeld.put (Nat.le_refl _))
    refine hK.out _ _ h9.out.1 (fun hHeld2 => ?_)
    clear hK K hHeld hHeld2 g0 g1 g2 g3 g4 f0 f1 f2 f3 f4 hy
    try simp only [Act.put, List.setIfInBounds_toArray, List.set_cons_zero, List.set_cons_succ, List.getElem_toArray, List.getElem_cons_succ, List.getElem_cons_zero]
    refine wpAnyH_done (by kernel_rfl) ?_ _
    refine NoPanic.normal ?_
    generalize World.setCell (World.setCell (World.setCell (World.setCell (World.setCell _ _ _) _ _) _ _) _ _) _ _ = W9 at h9 ⊢
    obtain ⟨⟨_, _, hbl⟩, hF⟩ := h9.out
    obtain ⟨g0, g1, g2, g3, g4⟩ := hF.c
    clear h9
    go_wp2
    exact bodyPost_ret (v := .tuple #[.int .u64 (low : Nat), fl (!FIT) Z S (!FIT) P]) (by simp [results, Tryd.results23, go_sem, *]) rfl ⟨by rw [← HFIT.out], hbl⟩
set_option maxRecDepth 100000 in
set_option maxHeartbeats 2000000 in
theorem rimul_yft (a b A B X Y low high r : Nat) (TOP : Int) (wd : Int) (Z S P u0 u1 u2 u3 u4 : Bool) (hw4 : wd - 9 ≥ 0)
    (hA : ∀ W, Calls Tryd.prog 29 #[.int .u64 (a : Int), .int .i64 wd] W fun e w' => e = .returned (.int .u64 (A : Int)) ∧ W = w')
    (hB : ∀ W, Calls Tryd.prog 29 #[.int .u64 (b : Int), .int .i64 wd] W fun e w' => e = .returned (.int .u64 (B : Int)) ∧ W = w')
    (hsA : ∀ W, Calls Tryd.prog 39 #[.int .u64 (A : Int), .int .i64 wd] W fun e w' => e = .returned (.bool false) ∧ W = w')
    (hsB : ∀ W, Calls Tryd.prog 39 #[.int .u64 (B : Int), .int .i64 wd] W fun e w' => e = .returned (.bool true) ∧ W = w')
    (hY : ∀ W, Calls Tryd.prog 29 #[.int .u64 (IntKind.u64.wrap (-(B : Int))), .int .i64 wd] W fun e w' => e = .returned (.int .u64 (Y : Int)) ∧ W = w')
    (hmul : ∀ W, Calls Tryd.prog 25 #[.int .i64 wd, .int .u64 (A : Int), .int .u64 (Y : Int)] W fun e w' => e = .returned (.tuple #[.int .u64 (low : Int), .int .u64 (high : Int), fl u0 u1 u2 u3 u4]) ∧ Below W.heap.size W w')
    (hneg : ∀ W, Calls Tryd.prog 29 #[.int .u64 (IntKind.u64.wrap (-(low : Int))), .int .i64 wd] W fun e w' => e = .returned (.int .u64 (r : Int)) ∧ W = w')
    (hlo : ∀ W, Calls Tryd.prog 13 #[.int .i64 wd, .int .u64 (r : Int)] W fun e w' => e = .returned (fl false Z S false P) ∧ Below W.heap.size W w')
    (w : World) :
    Calls Tryd.prog 23 #[.int .i64 wd, .int .u64 a, .int .u64 b] w fun e w' => e = .returned (.tuple #[.int .u64 (r : Nat), fl (!(((high : Int) == 0) && (decide ((low : Int) < 9223372036854775808) || (true && ((low : Int) == 9223372036854775808))))) Z S (!(((high : Int) == 0) && (decide ((low : Int) < 9223372036854775808) || (true && ((low : Int) == 9223372036854775808))))) P]) ∧ Below w.heap.size w w' := by
  have HA := Lib.hid hA
  have HB2 := Lib.hid hB
  have HSA := Lib.hid hsA
  have HSB := Lib.hid hsB
  have HY := Lib.hid hY
  have HMUL := Lib.hid hmul
  have HNEG := Lib.hid hneg
  have HLO := Lib.hid hlo
  clear hA hB hsA hsB hY hmul hneg hlo
  have hw1 : ¬ wd < 1 := by omega
  have hF := Lib.hid (F5.new w false false false false false)
  go_enter Tryd.func23, Tryd.ntmps23
  go_wp2_with (first | (go_at_call 29; (with_reducible refine (HA.out _).mono ?_); rintro e w1 ⟨rfl, rfl⟩) | (go_at_call 29; (with_reducible refine (HB2.out _).mono ?_); rintro e w1 ⟨rfl, rfl⟩) | (go_at_call 39; (with_reducible refine (HSA.out _).mono ?_); rintro e w1 ⟨rfl, rfl⟩) | (go_at_call 39; (with_reducible refine (HSB.out _).mono ?_); rintro e w1 ⟨rfl, rfl⟩) | (go_at_call 29; (with_reducible refine (HY.out _).mono ?_); rintro e w1 ⟨rfl, rfl⟩))
  go_at_call 25
  refine (HMUL.out _).mono ?_
  rintro e w1 ⟨rfl, hb⟩
  have hsz := hb.size
  simp only [World.size_alloc] at hsz
  have H3 := Lib.hid ((hF.out.keep hb).alloc (Obj.cells #[.bool u0, .bool u1, .bool u2, .bool u3, .bool u4] 24))
  have H4 := Lib.hid ((((Below.refl _ w).alloc (Nat.le_refl _) fl0).trans (hb.mono (by simp))).alloc (show w.heap.size ≤ w1.heap.size by omega) (Obj.cells #[.bool u0, .bool u1, .bool u2, .bool u3, .bool u4] 24))
  clear hF hb
  go_upto_region 8 with fail
  generalize World.alloc _ _ = W1 at H3 H4 ⊢
  go_upto_region 9 with fail
  go_cut [15] (fun q W => q = .bool (((high : Int) == 0) && (decide ((low : Int) < 9223372036854775808) || (true && ((low : Int) == 9223372036854775808)))) ∧ W = W1)
  case first =>
    cases q1 : ((high : Int) == 0)
    · go_wp2_with fail
      go_meet
      exact ⟨by simp [q1], rfl⟩
    · cases q2 : decide ((low : Int) < 9223372036854775808)
      · cases q3 : ((low : Int) == 9223372036854775808)
        · go_wp2_with fail
          go_meet
          exact ⟨by simp [q1, q2, q3], rfl⟩
        · go_wp2_with fail
          go_meet
          exact ⟨by simp [q1, q2, q3], rfl⟩
      · go_wp2_with fail
        go_meet
        exact ⟨by simp [q1, q2], rfl⟩
  case rest =>
    obtain ⟨rfl, rfl⟩ := hcut
    generalize hFIT : (((high : Int) == 0) && (decide ((low : Int) < 9223372036854775808) || (true && ((low : Int) == 9223372036854775808)))) = FIT
    have HFIT := Lib.hid hFIT
    clear hFIT
    go_wp2_with (go_at_call 29; (with_reducible refine (HNEG.out _).mono ?_); rintro e w1 ⟨rfl, rfl⟩)
    go_at_call 13
    refine (HLO.out _).mono ?_
    rintro e w2 ⟨rfl, hb⟩
    have hsz2 := hb.size
    have hR1 := H3.out.keep hb
    have h2 := F5.new w2 false Z S false P
    have h3 := hR1.alloc (Obj.cells #[.bool false, .bool Z, .bool S, .bool false, .bool P] 24)
    have hsw := H4.out.size
    have h4 := (H4.out.trans (hb.mono hsw)).alloc (show w.heap.size ≤ w2.heap.size by omega) (Obj.cells #[.bool false, .bool Z, .bool S, .bool false, .bool P] 24)
    have hdlt := hR1.lt
    have hdst : w.heap.size < w2.heap.size := hdlt
    have H2 := Lib.hid h2
    have H3' := Lib.hid h3
    have H4' := Lib.hid h4
    clear hR1 h2 h3 h4 hb hdlt
    go_upto_region 14 with fail
    generalize World.alloc _ _ = W2 at H2 H3' H4' ⊢
    obtain ⟨c0, c1, c2, c3, c4⟩ := H2.out.c
    obtain ⟨d0, d1, d2, d3, d4⟩ := H2.out.f
    have hR : Hid (Rt w (w2.heap.size) (!FIT) Z S (!FIT) P (w.heap.size) ((W2.setCell ⟨w2.heap.size, 0, none⟩ (.bool (!FIT))).setCell ⟨w2.heap.size, 3, none⟩ (.bool (!FIT)))) := Lib.hid ⟨H2.out.set0.set3, ⟨_, _, _, _, _, (H3'.out.far (by omega)).far (by omega)⟩, (H4'.out.setCell (p := ⟨w2.heap.size, 0, none⟩) (show w.heap.size ≤ w2.heap.size by omega) _).setCell (p := ⟨w2.heap.size, 3, none⟩) (show w.heap.size ≤ w2.heap.size by omega) _⟩
    go_wp2
    clear c0 c1 c2 c3 c4 d0 d1 d2 d3 d4
    generalize World.setCell (World.setCell _ _ _) _ _ = W3 at hR ⊢
    refine wp_region_noPanic ?_
    refine wp_region_held_drew (S := fun W => Rt w (w2.heap.size) (!FIT) Z S (!FIT) P (w.heap.size) W) (by kernel_rfl) ?_ (fun hHeld => ?_)
    · exact hR.out.drew
    generalize World.drew _ = W4 at hHeld ⊢
    refine wpAnyH_take (i := 0) (v := ?_) rfl (by kernel_rfl) (by kernel_rfl) (by kernel_rfl) (fun _ _ _ h => h) (Or.inl ⟨by kernel_rfl, ?_⟩) (by assumption) ?_
    rotate_left
    · intro w hSw
      go_simp
      try with_reducible rfl
    simp only [Act.put, List.setIfInBounds_toArray, List.set_cons_zero, List.set_cons_succ, List.getElem_toArray, List.getElem_cons_succ, List.getElem_cons_zero]
    refine wpAnyH_take (i := 1) (v := ?_) rfl (by kernel_rfl) (by kernel_rfl) (by kernel_rfl) (fun _ _ _ h => h) (Or.inl ⟨by kernel_rfl, ?_⟩) (by assumption) ?_
    rotate_left
    · intro w hSw
      obtain ⟨g0, g1, g2, g3, g4⟩ := hSw.1.c
      go_simp
      try with_reducible rfl
    simp only [Act.put, List.setIfInBounds_toArray, List.set_cons_zero, List.set_cons_succ, List.getElem_toArray, List.getElem_cons_succ, List.getElem_cons_zero]
    refine wpAnyH_ready (rs := [2]) (by kernel_rfl) (by simp) ?_
    refine AllReadyH.cons rfl (fun K hK => ?_) AllReadyH.nil
    go_simp
    refine hK.out _ _ hHeld (fun hHeld2 => ?_)
    clear hK K hHeld
    have hHeld := hHeld2
    clear hHeld2
    try simp only [Act.put, List.setIfInBounds_toArray, List.set_cons_zero, List.set_cons_succ, List.getElem_toArray, List.getElem_cons_succ, List.getElem_cons_zero]
    refine wpAnyH_ready (rs := [3]) (by kernel_rfl) (by simp) ?_
    refine AllReadyH.cons rfl (fun K hK => ?_) AllReadyH.nil
    obtain ⟨y0, y1, y2, y3, y4, hy⟩ := hHeld.2.1
    obtain ⟨g0, g1, g2, g3, g4⟩ := hy.c
    obtain ⟨f0, f1, f2, f3, f4⟩ := hy.f
    go_simp
    have h9 := Lib.hid (hHeld.put (Nat.le_refl _))
    refine hK.out _ _ h9.out.1 (fun hHeld2 => ?_)
    clear hK K hHeld hHeld2 g0 g1 g2 g3 g4 f0 f1 f2 f3 f4 hy
    try simp only [Act.put, List.setIfInBounds_toArray, List.set_cons_zero, List.set_cons_succ, List.getElem_toArray, List.getElem_cons_succ, List.getElem_cons_zero]
    refine wpAnyH_done (by kernel_rfl) ?_ _
    refine NoPanic.normal ?_
    generalize World.setCell (World.setCell (World.setCell (World.setCell (World.setCell _ _ _) _ _) _ _) _ _) _ _ = W9 at h9 ⊢
    obtain ⟨⟨_, _, hbl⟩, hF⟩ := h9.out
    obtain ⟨g0, g1, g2, g3, g4⟩ := hF.c
    clear h9
    go_wp2
    exact bodyPost_ret (v := .tuple #[.int .u64 (r : Nat), fl (!FIT) Z S (!FIT) P]) (by simp [results, Tryd.results23, go_sem, *]) rfl ⟨by rw [← HFIT.out], hbl⟩
set_option maxRecDepth 100000 in
set_option maxHeartbeats 2000000 in
theorem rimul_ytf (a b A B X Y low high r : Nat) (TOP : Int) (wd : Int) (Z S P u0 u1 u2 u3 u4 : Bool) (hw4 : wd - 9 ≥ 0)
    (hA : ∀ W, Calls Tryd.prog 29 #[.int .u64 (a : Int), .int .i64 wd] W fun e w' => e = .returned (.int .u64 (A : Int)) ∧ W = w')
    (hB : ∀ W, Calls Tryd.prog 29 #[.int .u64 (b : Int), .int .i64 wd] W fun e w' => e = .returned (.int .u64 (B : Int)) ∧ W = w')
    (hsA : ∀ W, Calls Tryd.prog 39 #[.int .u64 (A : Int), .int .i64 wd] W fun e w' => e = .returned (.bool true) ∧ W = w')
    (hsB : ∀ W, Calls Tryd.prog 39 #[.int .u64 (B : Int), .int .i64 wd] W fun e w' => e = .returned (.bool false) ∧ W = w')
    (hX : ∀ W, Calls Tryd.prog 29 #[.int .u64 (IntKind.u64.wrap (-(A : Int))), .int .i64 wd] W fun e w' => e = .returned (.int .u64 (X : Int)) ∧ W = w')
    (hmul : ∀ W, Calls Tryd.prog 25 #[.int .i64 wd, .int .u64 (X : Int), .int .u64 (B : Int)] W fun e w' => e = .returned (.tuple #[.int .u64 (low : Int), .int .u64 (high : Int), fl u0 u1 u2 u3 u4]) ∧ Below W.heap.size W w')
    (hneg : ∀ W, Calls Tryd.prog 29 #[.int .u64 (IntKind.u64.wrap (-(low : Int))), .int .i64 wd] W fun e w' => e = .returned (.int .u64 (r : Int)) ∧ W = w')
    (hlo : ∀ W, Calls Tryd.prog 13 #[.int .i64 wd, .int .u64 (r : Int)] W fun e w' => e = .returned (fl false Z S false P) ∧ Below W.heap.size W w')
    (w : World) :
    Calls Tryd.prog 23 #[.int .i64 wd, .int .u64 a, .int .u64 b] w fun e w' => e = .returned (.tuple #[.int .u64 (r : Nat), fl (!(((high : Int) == 0) && (decide ((low : Int) < 9223372036854775808) || (true && ((low : Int) == 9223372036854775808))))) Z S (!(((high : Int) == 0) && (decide ((low : Int) < 9223372036854775808) || (true && ((low : Int) == 9223372036854775808))))) P]) ∧ Below w.heap.size w w' := by
  have HA := Lib.hid hA
  have HB2 := Lib.hid hB
  have HSA := Lib.hid hsA
  have HSB := Lib.hid hsB
  have HX := Lib.hid hX
  have HMUL := Lib.hid hmul
  have HNEG := Lib.hid hneg
  have HLO := Lib.hid hlo
  clear hA hB hsA hsB hX hmul hneg hlo
  have hw1 : ¬ wd < 1 := by omega
  have hF := Lib.hid (F5.new w false false false false false)
  go_enter Tryd.func23, Tryd.ntmps23
  go_wp2_with (first | (go_at_call 29; (with_reducible refine (HA.out _).mono ?_); rintro e w1 ⟨rfl, rfl⟩) | (go_at_call 29; (with_reducible refine (HB2.out _).mono ?_); rintro e w1 ⟨rfl, rfl⟩) | (go_at_call 39; (with_reducible refine (HSA.out _).mono ?_); rintro e w1 ⟨rfl, rfl⟩) | (go_at_call 39; (with_reducible refine (HSB.out _).mono ?_); rintro e w1 ⟨rfl, rfl⟩) | (go_at_call 29; (with_reducible refine (HX.out _).mono ?_); rintro e w1 ⟨rfl, rfl⟩))
  go_at_call 25
  refine (HMUL.out _).mono ?_
  rintro e w1 ⟨rfl, hb⟩
  have hsz := hb.size
  simp only [World.size_alloc] at hsz
  have H3 := Lib.hid ((hF.out.keep hb).alloc (Obj.cells #[.bool u0, .bool u1, .bool u2, .bool u3, .bool u4] 24))
  have H4 := Lib.hid ((((Below.refl _ w).alloc (Nat.le_refl _) fl0).trans (hb.mono (by simp))).alloc (show w.heap.size ≤ w1.heap.size by omega) (Obj.cells #[.bool u0, .bool u1, .bool u2, .bool u3, .bool u4] 24))
  clear hF hb
  go_upto_region 8 with fail
  generalize World.alloc _ _ = W1 at H3 H4 ⊢
  go_upto_region 9 with fail
  go_cut [15] (fun q W => q = .bool (((high : Int) == 0) && (decide ((low : Int) < 9223372036854775808) || (true && ((low : Int) == 9223372036854775808)))) ∧ W = W1)
  case first =>
    cases q1 : ((high : Int) == 0)
    · go_wp2_with fail
      go_meet
      exact ⟨by simp [q1], rfl⟩
    · cases q2 : decide ((low : Int) < 9223372036854775808)
      · cases q3 : ((low : Int) == 9223372036854775808)
        · go_wp2_with fail
          go_meet
          exact ⟨by simp [q1, q2, q3], rfl⟩
        · go_wp2_with fail
          go_meet
          exact ⟨by simp [q1, q2, q3], rfl⟩
      · go_wp2_with fail
        go_meet
        exact ⟨by simp [q1, q2], rfl⟩
  case rest =>
    obtain ⟨rfl, rfl⟩ := hcut
    generalize hFIT : (((high : Int) == 0) && (decide ((low : Int) < 9223372036854775808) || (true && ((low : Int) == 9223372036854775808)))) = FIT
    have HFIT := Lib.hid hFIT
    clear hFIT
    go_wp2_with (go_at_call 29; (with_reducible refine (HNEG.out _).mono ?_); rintro e w1 ⟨rfl, rfl⟩)
    go_at_call 13
    refine (HLO.out _).mono ?_
    rintro e w2 ⟨rfl, hb⟩
    have hsz2 := hb.size
    have hR1 := H3.out.keep hb
    have h2 := F5.new w2 false Z S false P
    have h3 := hR1.alloc (Obj.cells #[.bool false, .bool Z, .bool S, .bool false, .bool P] 24)
    have hsw := H4.out.size
    have h4 := (H4.out.trans (hb.mono hsw)).alloc (show w.heap.size ≤ w2.heap.size by omega) (Obj.cells #[.bool false, .bool Z, .bool S, .bool false, .bool P] 24)
    have hdlt := hR1.lt
    have hdst : w.heap.size < w2.heap.size := hdlt
    have H2 := Lib.hid h2
    have H3' := Lib.hid h3
    have H4' := Lib.hid h4
    clear hR1 h2 h3 h4 hb hdlt
    go_upto_region 14 with fail
    generalize World.alloc _ _ = W2 at H2 H3' H4' ⊢
    obtain ⟨c0, c1, c2, c3, c4⟩ := H2.out.c
    obtain ⟨d0, d1, d2, d3, d4⟩ := H2.out.f
    have hR : Hid (Rt w (w2.heap.size) (!FIT) Z S (!FIT) P (w.heap.size) ((W2.setCell ⟨w2.heap.size, 0, none⟩ (.bool (!FIT))).setCell ⟨w2.heap.size, 3, none⟩ (.bool (!FIT)))) := Lib.hid ⟨H2.out.set0.set3, ⟨_, _, _, _, _, (H3'.out.far (by omega)).far (by omega)⟩, (H4'.out.setCell (p := ⟨w2.heap.size, 0, none⟩) (show w.heap.size ≤ w2.heap.size by omega) _).setCell (p := ⟨w2.heap.size, 3, none⟩) (show w.heap.size ≤ w2.heap.size by omega) _⟩
    go_wp2
    clear c0 c1 c2 c3 c4 d0 d1 d2 d3 d4
    generalize World.setCell (World.setCell _ _ _) _ _ = W3 at hR ⊢
    refine wp_region_noPanic ?_
    refine wp_region_held_drew (S := fun W => Rt w (w2.heap.size) (!FIT) Z S (!FIT) P (w.heap.size) W) (by kernel_rfl) ?_ (fun hHeld => ?_)
    · exact hR.out.drew
    generalize World.drew _ = W4 at hHeld ⊢
    refine wpAnyH_take (i := 0) (v := ?_) rfl (by kernel_rfl) (by kernel_rfl) (by kernel_rfl) (fun _ _ _ h => h) (Or.inl ⟨by kernel_rfl, ?_⟩) (by assumption) ?_
    rotate_left
    · intro w hSw
      go_simp
      try with_reducible rfl
    simp only [Act.put, List.setIfInBounds_toArray, List.set_cons_zero, List.set_cons_succ, List.getElem_toArray, List.getElem_cons_succ, List.getElem_cons_zero]
    refine wpAnyH_take (i := 1) (v := ?_) rfl (by kernel_rfl) (by kernel_rfl) (by kernel_rfl) (fun _ _ _ h => h) (Or.inl ⟨by kernel_rfl, ?_⟩) (by assumption) ?_
    rotate_left
    · intro w hSw
      obtain ⟨g0, g1, g2, g3, g4⟩ := hSw.1.c
      go_simp
      try with_reducible rfl
    simp only [Act.put, List.setIfInBounds_toArray, List.set_cons_zero, List.set_cons_succ, List.getElem_toArray, List.getElem_cons_succ, List.getElem_cons_zero]
    refine wpAnyH_ready (rs := [2]) (by kernel_rfl) (by simp) ?_
    refine AllReadyH.cons rfl (fun K hK => ?_) AllReadyH.nil
    go_simp
    refine hK.out _ _ hHeld (fun hHeld2 => ?_)
    clear hK K hHeld
    have hHeld := hHeld2
    clear hHeld2
    try simp only [Act.put, List.setIfInBounds_toArray, List.set_cons_zero, List.set_cons_succ, List.getElem_toArray, List.getElem_cons_succ, List.getElem_cons_zero]
    refine wpAnyH_ready (rs := [3]) (by kernel_rfl) (by simp) ?_
    refine AllReadyH.cons rfl (fun K hK => ?_) AllReadyH.nil
    obtain ⟨y0, y1, y2, y3, y4, hy⟩ := hHeld.2.1
    obtain ⟨g0, g1, g2, g3, g4⟩ := hy.c
    obtain ⟨f0, f1, f2, f3, f4⟩ := hy.f
    go_simp
    have h9 := Lib.hid (hHeld.put (Nat.le_refl _))
    refine hK.out _ _ h9.out.1 (fun hHeld2 => ?_)
    clear hK K hHeld hHeld2 g0 g1 g2 g3 g4 f0 f1 f2 f3 f4 hy
    try simp only [Act.put, List.setIfInBounds_toArray, List.set_cons_zero, List.set_cons_succ, List.getElem_toArray, List.getElem_cons_succ, List.getElem_cons_zero]
    refine wpAnyH_done (by kernel_rfl) ?_ _
    refine NoPanic.normal ?_
    generalize World.setCell (World.setCell (World.setCell (World.setCell (World.setCell _ _ _) _ _) _ _) _ _) _ _ = W9 at h9 ⊢
    obtain ⟨⟨_, _, hbl⟩, hF⟩ := h9.out
    obtain ⟨g0, g1, g2, g3, g4⟩ := hF.c
    clear h9
    go_wp2
    exact bodyPost_ret (v := .tuple #[.int .u64 (r : Nat), fl (!FIT) Z S (!FIT) P]) (by simp [results, Tryd.results23, go_sem, *]) rfl ⟨by rw [← HFIT.out], hbl⟩
set_option maxRecDepth 100000 in
set_option maxHeartbeats 2000000 in
theorem rimul_ytt (a b A B X Y low high r : Nat) (TOP : Int) (wd : Int) (Z S P u0 u1 u2 u3 u4 : Bool) (hw4 : wd - 9 ≥ 0)
    (hA : ∀ W, Calls Tryd.prog 29 #[.int .u64 (a : Int), .int .i64 wd] W fun e w' => e = .returned (.int .u64 (A : Int)) ∧ W = w')
    (hB : ∀ W, Calls Tryd.prog 29 #[.int .u64 (b : Int), .int .i64 wd] W fun e w' => e = .returned (.int .u64 (B : Int)) ∧ W = w')
    (hsA : ∀ W, Calls Tryd.prog 39 #[.int .u64 (A : Int), .int .i64 wd] W fun e w' => e = .returned (.bool true) ∧ W = w')
    (hsB : ∀ W, Calls Tryd.prog 39 #[.int .u64 (B : Int), .int .i64 wd] W fun e w' => e = .returned (.bool true) ∧ W = w')
    (hX : ∀ W, Calls Tryd.prog 29 #[.int .u64 (IntKind.u64.wrap (-(A : Int))), .int .i64 wd] W fun e w' => e = .returned (.int .u64 (X : Int)) ∧ W = w')
    (hY : ∀ W, Calls Tryd.prog 29 #[.int .u64 (IntKind.u64.wrap (-(B : Int))), .int .i64 wd] W fun e w' => e = .returned (.int .u64 (Y : Int)) ∧ W = w')
    (hmul : ∀ W, Calls Tryd.prog 25 #[.int .i64 wd, .int .u64 (X : Int), .int .u64 (Y : Int)] W fun e w' => e = .returned (.tuple #[.int .u64 (low : Int), .int .u64 (high : Int), fl u0 u1 u2 u3 u4]) ∧ Below W.heap.size W w')
    (hlo : ∀ W, Calls Tryd.prog 13 #[.int .i64 wd, .int .u64 (low : Int)] W fun e w' => e = .returned (fl false Z S false P) ∧ Below W.heap.size W w')
    (w : World) :
    Calls Tryd.prog 23 #[.int .i64 wd, .int .u64 a, .int .u64 b] w fun e w' => e = .returned (.tuple #[.int .u64 (low : Nat), fl (!(((high : Int) == 0) && (decide ((low : Int) < 9223372036854775808) || (false && ((low : Int) == 9223372036854775808))))) Z S (!(((high : Int) == 0) && (decide ((low : Int) < 9223372036854775808) || (false && ((low : Int) == 9223372036854775808))))) P]) ∧ Below w.heap.size w w' := by
  have HA := Lib.hid hA
  have HB2 := Lib.hid hB
  have HSA := Lib.hid hsA
  have HSB := Lib.hid hsB
  have HX := Lib.hid hX
  have HY := Lib.hid hY
  have HMUL := Lib.hid hmul
  have HLO := Lib.hid hlo
  clear hA hB hsA hsB hX hY hmul hlo
  have hw1 : ¬ wd < 1 := by omega
  have hF := Lib.hid (F5.new w false false false false false)
  go_enter Tryd.func23, Tryd.ntmps23
  go_wp2_with (first | (go_at_call 29; (with_reducible refine (HA.out _).mono ?_); rintro e w1 ⟨rfl, rfl⟩) | (go_at_call 29; (with_reducible refine (HB2.out _).mono ?_); rintro e w1 ⟨rfl, rfl⟩) | (go_at_call 39; (with_reducible refine (HSA.out _).mono ?_); rintro e w1 ⟨rfl, rfl⟩) | (go_at_call 39; (with_reducible refine (HSB.out _).mono ?_); rintro e w1 ⟨rfl, rfl⟩) | (go_at_call 29; (with_reducible refine (HX.out _).mono ?_); rintro e w1 ⟨rfl, rfl⟩) | (go_at_call 29; (with_reducible refine (HY.out _).mono ?_); rintro e w1 ⟨rfl, rfl⟩))
  go_at_call 25
  refine (HMUL.out _).mono ?_
  rintro e w1 ⟨rfl, hb⟩
  have hsz := hb.size
  simp only [World.size_alloc] at hsz
  have H3 := Lib.hid ((hF.out.keep hb).alloc (Obj.cells #[.bool u0, .bool u1, .bool u2, .bool u3, .bool u4] 24))
  have H4 := Lib.hid ((((Below.refl _ w).alloc (Nat.le_refl _) fl0).trans (hb.mono (by simp))).alloc (show w.heap.size ≤ w1.heap.size by omega) (Obj.cells #[.bool u0, .bool u1, .bool u2, .bool u3, .bool u4] 24))
  clear hF hb
  go_upto_region 8 with fail
  generalize World.alloc _ _ = W1 at H3 H4 ⊢
  go_upto_region 9 with fail
  go_cut [15] (fun q W => q = .bool (((high : Int) == 0) && (decide ((low : Int) < 9223372036854775808) || (false && ((low : Int) == 9223372036854775808)))) ∧ W = W1)
  case first =>
    cases q1 : ((high : Int) == 0)
    · go_wp2_with fail
      go_meet
      exact ⟨by simp [q1], rfl⟩
    · cases q2 : decide ((low : Int) < 9223372036854775808)
      · go_wp2_with fail
        go_meet
        exact ⟨by simp [q1, q2], rfl⟩
      · go_wp2_with fail
        go_meet
        exact ⟨by simp [q1, q2], rfl⟩
  case rest =>
    obtain ⟨rfl, rfl⟩ := hcut
    generalize hFIT : (((high : Int) == 0) && (decide ((low : Int) < 9223372036854775808) || (false && ((low : Int) == 9223372036854775808)))) = FIT
    have HFIT := Lib.hid hFIT
    clear hFIT
    go_wp2_with fail
    go_at_call 13
    refine (HLO.out _).mono ?_
    rintro e w2 ⟨rfl, hb⟩
    have hsz2 := hb.size
    have hR1 := H3.out.keep hb
    have h2 := F5.new w2 false Z S false P
    have h3 := hR1.alloc (Obj.cells #[.bool false, .bool Z, .bool S, .bool false, .bool P] 24)
    have hsw := H4.out.size
    have h4 := (H4.out.trans (hb.mono hsw)).alloc (show w.heap.size ≤ w2.heap.size by omega) (Obj.cells #[.bool false, .bool Z, .bool S, .bool false, .bool P] 24)
    have hdlt := hR1.lt
    have hdst : w.heap.size < w2.heap.size := hdlt
    have H2 := Lib.hid h2
    have H3' := Lib.hid h3
    have H4' := Lib.hid h4
    clear hR1 h2 h3 h4 hb hdlt
    go_upto_region 14 with fail
    generalize World.alloc _ _ = W2 at H2 H3' H4' ⊢
    obtain ⟨c0, c1, c2, c3, c4⟩ := H2.out.c
    obtain ⟨d0, d1, d2, d3, d4⟩ := H2.out.f
    have hR : Hid (Rt w (w2.heap.size) (!FIT) Z S (!FIT) P (w.heap.size) ((W2.setCell ⟨w2.heap.size, 0, none⟩ (.bool (!FIT))).setCell ⟨w2.heap.size, 3, none⟩ (.bool (!FIT)))) := Lib.hid ⟨H2.out.set0.set3, ⟨_, _, _, _, _, (H3'.out.far (by omega)).far (by omega)⟩, (H4'.out.setCell (p := ⟨w2.heap.size, 0, none⟩) (show w.heap.size ≤ w2.heap.size by omega) _).setCell (p := ⟨w2.heap.size, 3, none⟩) (show w.heap.size ≤ w2.heap.size by omega) _⟩
    go_wp2
    clear c0 c1 c2 c3 c4 d0 d1 d2 d3 d4
    generalize World.setCell (World.setCell _ _ _) _ _ = W3 at hR ⊢
    refine wp_region_noPanic ?_
    refine wp_region_held_drew (S := fun W => Rt w (w2.heap.size) (!FIT) Z S (!FIT) P (w.heap.size) W) (by kernel_rfl) ?_ (fun hHeld => ?_)
    · exact hR.out.drew
    generalize World.drew _ = W4 at hHeld ⊢
    refine wpAnyH_take (i := 0) (v := ?_) rfl (by kernel_rfl) (by kernel_rfl) (by kernel_rfl) (fun _ _ _ h => h) (Or.inl ⟨by kernel_rfl, ?_⟩) (by assumption) ?_
    rotate_left
    · intro w hSw
      go_simp
      try with_reducible rfl
    simp only [Act.put, List.setIfInBounds_toArray, List.set_cons_zero, List.set_cons_succ, List.getElem_toArray, List.getElem_cons_succ, List.getElem_cons_zero]
    refine wpAnyH_take (i := 1) (v := ?_) rfl (by kernel_rfl) (by kernel_rfl) (by kernel_rfl) (fun _ _ _ h => h) (Or.inl ⟨by kernel_rfl, ?_⟩) (by assumption) ?_
    rotate_left
    · intro w hSw
      obtain ⟨g0, g1, g2, g3, g4⟩ := hSw.1.c
      go_simp
      try with_reducible rfl
    simp only [Act.put, List.setIfInBounds_toArray, List.set_cons_zero, List.set_cons_succ, List.getElem_toArray, List.getElem_cons_succ, List.getElem_cons_zero]
    refine wpAnyH_ready (rs := [2]) (by kernel_rfl) (by simp) ?_
    refine AllReadyH.cons rfl (fun K hK => ?_) AllReadyH.nil
    go_simp
    refine hK.out _ _ hHeld (fun hHeld2 => ?_)
    clear hK K hHeld
    have hHeld := hHeld2
    clear hHeld2
    try simp only [Act.put, List.setIfInBounds_toArray, List.set_cons_zero, List.set_cons_succ, List.getElem_toArray, List.getElem_cons_succ, List.getElem_cons_zero]
    refine wpAnyH_ready (rs := [3]) (by kernel_rfl) (by simp) ?_
    refine AllReadyH.cons rfl (fun K hK => ?_) AllReadyH.nil
    obtain ⟨y0, y1, y2, y3, y4, hy⟩ := hHeld.2.1
    obtain ⟨g0, g1, g2, g3, g4⟩ := hy.c
    obtain ⟨f0, f1, f2, f3, f4⟩ := hy.f
    go_simp
    have h9 := Lib.hid (hHeld.put (Nat.le_refl _))
    refine hK.out _ _ h9.out.1 (fun hHeld2 => ?_)
    clear hK K hHeld hHeld2 g0 g1 g2 g3 g4 f0 f1 f2 f3 f4 hy
    try simp only [Act.put, List.setIfInBounds_toArray, List.set_cons_zero, List.set_cons_succ, List.getElem_toArray, List.getElem_cons_succ, List.getElem_cons_zero]
    refine wpAnyH_done (by kernel_rfl) ?_ _
    refine NoPanic.normal ?_
    generalize World.setCell (World.setCell (World.setCell (World.setCell (World.setCell _ _ _) _ _) _ _) _ _) _ _ = W9 at h9 ⊢
    obtain ⟨⟨_, _, hbl⟩, hF⟩ := h9.out
    obtain ⟨g0, g1, g2, g3, g4⟩ := hF.c
    clear h9
    go_wp2
    exact bodyPost_ret (v := .tuple #[.int .u64 (low : Nat), fl (!FIT) Z S (!FIT) P]) (by simp [results, Tryd.results23, go_sem, *]) rfl ⟨by rw [← HFIT.out], hbl⟩
end Go.Proofs.YtmfoeolllobidaaDoor
