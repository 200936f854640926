/- Inc, Dec and Neg, of the program and of the document's own answer. -/
import Derived.Test.YtmfoeolllobidaaDoorRa
import Derived.Test.YtmfoeolllobidaaDoorF5
import Derived.Deep.DeepCutAuto
namespace Go.Proofs.YtmfoeolllobidaaDoor
open Go.RowKit Go.Shelf
set_option linter.unusedSimpArgs false
set_option linter.unusedVariables false
attribute [local go_sem] Oper.semAt_some
set_option maxHeartbeats 1000000 in
theorem ainc_core (a r : Nat) (x0 x1 x2 x3 x4 c z s o p : Bool) (wd : Int) (w : World) (hm : Mk w)
    (hc : ∀ W, Mk W → Calls Tryd.prog 8 #[.int .i64 wd, .int .u64 a, .int .u64 1, .bool false] W fun e w' => e = .returned (.tuple #[.int .u64 (r : Nat), fl x0 x1 x2 x3 x4]) ∧ Below W.heap.size W w') :
    Calls Tryd.prog 14 #[.int .i64 wd, .int .u64 a, fl c z s o p] w fun e w' => e = .returned (.tuple #[.int .u64 (r : Nat), fl c x1 x2 x3 x4]) ∧ Below w.heap.size w w' := by
  have hA := Lib.hid ((F5.new w c z s o p).alloc fl0)
  have hB := Lib.hid (F5.new (w.alloc (flw c z s o p)) false false false false false)
  have hb0 : Below w.heap.size w ((w.alloc (flw c z s o p)).alloc fl0) := ((Below.refl _ _).alloc (Nat.le_refl _) _).alloc (by simp) _
  have hC := Lib.hid hc
  have HM := Lib.hid hm
  clear hc hm
  go_enter Tryd.func14, Tryd.ntmps14
  go_wp2_with fail
  go_at_call 8
  refine (hC.out _ ((HM.out.alloc _).alloc _)).mono ?_
  rintro e w1 ⟨rfl, hb⟩
  have hsz := hb.size
  simp only [World.size_alloc] at hsz
  have hE := Lib.hid (hb0.trans (hb.mono (by simp; omega)))
  have hA1 := Lib.hid (hA.out.keep hb)
  have hB1 := hB.out.keep hb
  rw [World.size_alloc] at hB1
  have hB1 := Lib.hid hB1
  clear hA hB hb0 hb hC HM
  obtain ⟨c0, c1, c2, c3, c4⟩ := hB1.out.c
  obtain ⟨d0, d1, d2, d3, d4⟩ := hB1.out.f
  go_upto_region 2 with fail
  have h2 : F5 _ _ x0 x1 x2 x3 x4 := hB1.out.put (y0 := x0) (y1 := x1) (y2 := x2) (y3 := x3) (y4 := x4)
  have h3 := hA1.out.far5 (p := w.heap.size + 1) (y0 := x0) (y1 := x1) (y2 := x2) (y3 := x3) (y4 := x4) (by omega)
  have h4 := below_put (y0 := x0) (y1 := x1) (y2 := x2) (y3 := x3) (y4 := x4) hE.out (show w.heap.size ≤ w.heap.size + 1 by omega)
  clear c0 c1 c2 c3 c4 d0 d1 d2 d3 d4 hA1 hB1 hE
  generalize World.setCell (World.setCell (World.setCell (World.setCell (World.setCell _ _ _) _ _) _ _) _ _) _ _ = W2 at h2 h3 h4 ⊢
  obtain ⟨c0, _⟩ := h3.c
  obtain ⟨c1, _⟩ := h2.c
  obtain ⟨d1, _⟩ := h2.f
  have hR : Hid (Rt w (w.heap.size + 1) c x1 x2 x3 x4 (w.heap.size + 1) (W2.setCell ⟨w.heap.size + 1, 0, none⟩ (.bool c))) := Lib.hid ⟨h2.set0, ⟨_, _, _, _, _, h2.set0⟩, h4.setCell (p := ⟨w.heap.size + 1, 0, none⟩) (by simp) _⟩
  clear h2 h3 h4
  go_wp2_with fail
  clear c0 c1 d1
  generalize World.setCell _ _ _ = W3 at hR ⊢
  refine wp_region_noPanic ?_
  refine wp_region_held_drew (S := fun W => Rt w (w.heap.size + 1) c x1 x2 x3 x4 (w.heap.size + 1) W) (by kernel_rfl) ?_ (fun hHeld => ?_)
  · exact hR.out.drew
  generalize World.drew _ = W4 at hHeld ⊢
  refine wpAnyH_take (i := 0) (v := ?_) rfl (by kernel_rfl) (by kernel_rfl) (by kernel_rfl) (fun _ _ _ h => h) (Or.inl ⟨by kernel_rfl, ?_⟩) (by assumption) ?_
  rotate_left
  · intro w hSw
    go_simp
    try with_reducible rfl
  simp only [Act.put, List.setIfInBounds_toArray, List.set_cons_zero, List.set_cons_succ, List.getElem_toArray, List.getElem_cons_succ, List.getElem_cons_zero]
  refine wpAnyH_take (i := 1) (v := ?_) rfl (by kernel_rfl) (by kernel_rfl) (by kernel_rfl) (fun _ _ _ h => h) (Or.inl ⟨by kernel_rfl, ?_⟩) (by assumption) ?_
  rotate_left
  · intro w hSw
    obtain ⟨g0, g1, g2, g3, g4⟩ := hSw.1.c
    go_simp
    try with_reducible rfl
  simp only [Act.put, List.setIfInBounds_toArray, List.set_cons_zero, List.set_cons_succ, List.getElem_toArray, List.getElem_cons_succ, List.getElem_cons_zero]
  refine wpAnyH_ready (rs := [2]) (by kernel_rfl) (by simp) ?_
  refine AllReadyH.cons rfl (fun K hK => ?_) AllReadyH.nil
  go_simp
  refine hK.out _ _ hHeld (fun hHeld2 => ?_)
  clear hK K hHeld
  have hHeld := hHeld2
  clear hHeld2
  try simp only [Act.put, List.setIfInBounds_toArray, List.set_cons_zero, List.set_cons_succ, List.getElem_toArray, List.getElem_cons_succ, List.getElem_cons_zero]
  refine wpAnyH_ready (rs := [3]) (by kernel_rfl) (by simp) ?_
  refine AllReadyH.cons rfl (fun K hK => ?_) AllReadyH.nil
  obtain ⟨y0, y1, y2, y3, y4, hy⟩ := hHeld.2.1
  obtain ⟨g0, g1, g2, g3, g4⟩ := hy.c
  obtain ⟨f0, f1, f2, f3, f4⟩ := hy.f
  go_simp
  have h9 := Lib.hid (hHeld.put (by omega))
  refine hK.out _ _ h9.out.1 (fun hHeld2 => ?_)
  clear hK K hHeld hHeld2 g0 g1 g2 g3 g4 f0 f1 f2 f3 f4 hy
  try simp only [Act.put, List.setIfInBounds_toArray, List.set_cons_zero, List.set_cons_succ, List.getElem_toArray, List.getElem_cons_succ, List.getElem_cons_zero]
  refine wpAnyH_done (by kernel_rfl) ?_ _
  refine NoPanic.normal ?_
  generalize World.setCell (World.setCell (World.setCell (World.setCell (World.setCell _ _ _) _ _) _ _) _ _) _ _ = W9 at h9 ⊢
  obtain ⟨⟨_, _, hbl⟩, hF⟩ := h9.out
  obtain ⟨g0, g1, g2, g3, g4⟩ := hF.c
  clear h9
  go_wp2
  exact bodyPost_ret (v := .tuple #[.int .u64 (r : Nat), fl c x1 x2 x3 x4]) (by simp [results, Tryd.results14, go_sem, *]) rfl ⟨rfl, hbl⟩
theorem ainc_any (a : Nat) (ha : U a) (c z s o p : Bool) (wd : Int) (w : World) (hm : Mk w) :
    Calls Tryd.prog 14 #[.int .i64 wd, .int .u64 a, fl c z s o p] w fun e w' => e = .returned (.tuple #[.int .u64 (addR a 1 false wd : Nat), fl c (zB (addR a 1 false wd) wd) (sB (addR a 1 false wd) wd) (addV a 1 false wd) (pB (addR a 1 false wd))]) ∧ Below w.heap.size w w' :=
  ainc_core a _ (addO a 1 false wd) _ _ _ _ c z s o p wd w hm (fun W hW => aadd_any a 1 ha (by unfold U; decide) false wd W hW)
set_option maxHeartbeats 1000000 in
theorem adec_core (a r : Nat) (x0 x1 x2 x3 x4 c z s o p : Bool) (wd : Int) (w : World) (hm : Mk w)
    (hc : ∀ W, Mk W → Calls Tryd.prog 10 #[.int .i64 wd, .int .u64 a, .int .u64 1, .bool false] W fun e w' => e = .returned (.tuple #[.int .u64 (r : Nat), fl x0 x1 x2 x3 x4]) ∧ Below W.heap.size W w') :
    Calls Tryd.prog 16 #[.int .i64 wd, .int .u64 a, fl c z s o p] w fun e w' => e = .returned (.tuple #[.int .u64 (r : Nat), fl c x1 x2 x3 x4]) ∧ Below w.heap.size w w' := by
  have hA := Lib.hid ((F5.new w c z s o p).alloc fl0)
  have hB := Lib.hid (F5.new (w.alloc (flw c z s o p)) false false false false false)
  have hb0 : Below w.heap.size w ((w.alloc (flw c z s o p)).alloc fl0) := ((Below.refl _ _).alloc (Nat.le_refl _) _).alloc (by simp) _
  have hC := Lib.hid hc
  have HM := Lib.hid hm
  clear hc hm
  go_enter Tryd.func16, Tryd.ntmps16
  go_wp2_with fail
  go_at_call 10
  refine (hC.out _ ((HM.out.alloc _).alloc _)).mono ?_
  rintro e w1 ⟨rfl, hb⟩
  have hsz := hb.size
  simp only [World.size_alloc] at hsz
  have hE := Lib.hid (hb0.trans (hb.mono (by simp; omega)))
  have hA1 := Lib.hid (hA.out.keep hb)
  have hB1 := hB.out.keep hb
  rw [World.size_alloc] at hB1
  have hB1 := Lib.hid hB1
  clear hA hB hb0 hb hC HM
  obtain ⟨c0, c1, c2, c3, c4⟩ := hB1.out.c
  obtain ⟨d0, d1, d2, d3, d4⟩ := hB1.out.f
  go_upto_region 2 with fail
  have h2 : F5 _ _ x0 x1 x2 x3 x4 := hB1.out.put (y0 := x0) (y1 := x1) (y2 := x2) (y3 := x3) (y4 := x4)
  have h3 := hA1.out.far5 (p := w.heap.size + 1) (y0 := x0) (y1 := x1) (y2 := x2) (y3 := x3) (y4 := x4) (by omega)
  have h4 := below_put (y0 := x0) (y1 := x1) (y2 := x2) (y3 := x3) (y4 := x4) hE.out (show w.heap.size ≤ w.heap.size + 1 by omega)
  clear c0 c1 c2 c3 c4 d0 d1 d2 d3 d4 hA1 hB1 hE
  generalize World.setCell (World.setCell (World.setCell (World.setCell (World.setCell _ _ _) _ _) _ _) _ _) _ _ = W2 at h2 h3 h4 ⊢
  obtain ⟨c0, _⟩ := h3.c
  obtain ⟨c1, _⟩ := h2.c
  obtain ⟨d1, _⟩ := h2.f
  have hR : Hid (Rt w (w.heap.size + 1) c x1 x2 x3 x4 (w.heap.size + 1) (W2.setCell ⟨w.heap.size + 1, 0, none⟩ (.bool c))) := Lib.hid ⟨h2.set0, ⟨_, _, _, _, _, h2.set0⟩, h4.setCell (p := ⟨w.heap.size + 1, 0, none⟩) (by simp) _⟩
  clear h2 h3 h4
  go_wp2_with fail
  clear c0 c1 d1
  generalize World.setCell _ _ _ = W3 at hR ⊢
  refine wp_region_noPanic ?_
  refine wp_region_held_drew (S := fun W => Rt w (w.heap.size + 1) c x1 x2 x3 x4 (w.heap.size + 1) W) (by kernel_rfl) ?_ (fun hHeld => ?_)
  · exact hR.out.drew
  generalize World.drew _ = W4 at hHeld ⊢
  refine wpAnyH_take (i := 0) (v := ?_) rfl (by kernel_rfl) (by kernel_rfl) (by kernel_rfl) (fun _ _ _ h => h) (Or.inl ⟨by kernel_rfl, ?_⟩) (by assumption) ?_
  rotate_left
  · intro w hSw
    go_simp
    try with_reducible rfl
  simp only [Act.put, List.setIfInBounds_toArray, List.set_cons_zero, List.set_cons_succ, List.getElem_toArray, List.getElem_cons_succ, List.getElem_cons_zero]
  refine wpAnyH_take (i := 1) (v := ?_) rfl (by kernel_rfl) (by kernel_rfl) (by kernel_rfl) (fun _ _ _ h => h) (Or.inl ⟨by kernel_rfl, ?_⟩) (by assumption) ?_
  rotate_left
  · intro w hSw
    obtain ⟨g0, g1, g2, g3, g4⟩ := hSw.1.c
    go_simp
    try with_reducible rfl
  simp only [Act.put, List.setIfInBounds_toArray, List.set_cons_zero, List.set_cons_succ, List.getElem_toArray, List.getElem_cons_succ, List.getElem_cons_zero]
  refine wpAnyH_ready (rs := [2]) (by kernel_rfl) (by simp) ?_
  refine AllReadyH.cons rfl (fun K hK => ?_) AllReadyH.nil
  go_simp
  refine hK.out _ _ hHeld (fun hHeld2 => ?_)
  clear hK K hHeld
  have hHeld := hHeld2
  clear hHeld2
  try simp only [Act.put, List.setIfInBounds_toArray, List.set_cons_zero, List.set_cons_succ, List.getElem_toArray, List.getElem_cons_succ, List.getElem_cons_zero]
  refine wpAnyH_ready (rs := [3]) (by kernel_rfl) (by simp) ?_
  refine AllReadyH.cons rfl (fun K hK => ?_) AllReadyH.nil
  obtain ⟨y0, y1, y2, y3, y4, hy⟩ := hHeld.2.1
  obtain ⟨g0, g1, g2, g3, g4⟩ := hy.c
  obtain ⟨f0, f1, f2, f3, f4⟩ := hy.f
  go_simp
  have h9 := Lib.hid (hHeld.put (by omega))
  refine hK.out _ _ h9.out.1 (fun hHeld2 => ?_)
  clear hK K hHeld hHeld2 g0 g1 g2 g3 g4 f0 f1 f2 f3 f4 hy
  try simp only [Act.put, List.setIfInBounds_toArray, List.set_cons_zero, List.set_cons_succ, List.getElem_toArray, List.getElem_cons_succ, List.getElem_cons_zero]
  refine wpAnyH_done (by kernel_rfl) ?_ _
  refine NoPanic.normal ?_
  generalize World.setCell (World.setCell (World.setCell (World.setCell (World.setCell _ _ _) _ _) _ _) _ _) _ _ = W9 at h9 ⊢
  obtain ⟨⟨_, _, hbl⟩, hF⟩ := h9.out
  obtain ⟨g0, g1, g2, g3, g4⟩ := hF.c
  clear h9
  go_wp2
  exact bodyPost_ret (v := .tuple #[.int .u64 (r : Nat), fl c x1 x2 x3 x4]) (by simp [results, Tryd.results16, go_sem, *]) rfl ⟨rfl, hbl⟩
theorem adec_any (a : Nat) (ha : U a) (c z s o p : Bool) (wd : Int) (w : World) (hm : Mk w) :
    Calls Tryd.prog 16 #[.int .i64 wd, .int .u64 a, fl c z s o p] w fun e w' => e = .returned (.tuple #[.int .u64 (subR a 1 false wd : Nat), fl c (zB (subR a 1 false wd) wd) (sB (subR a 1 false wd) wd) (subV a 1 false wd) (pB (subR a 1 false wd))]) ∧ Below w.heap.size w w' :=
  adec_core a _ (subO a 1 false wd) _ _ _ _ c z s o p wd w hm (fun W hW => asub_any a 1 ha (by unfold U; decide) false wd W hW)
set_option maxHeartbeats 1000000 in
theorem rinc_core (a r : Nat) (x0 x1 x2 x3 x4 c z s o p : Bool) (wd : Int) (w : World) (hm : Mk w)
    (hc : ∀ W, Mk W → Calls Tryd.prog 9 #[.int .i64 wd, .int .u64 a, .int .u64 1, .bool false] W fun e w' => e = .returned (.tuple #[.int .u64 (r : Nat), fl x0 x1 x2 x3 x4]) ∧ Below W.heap.size W w') :
    Calls Tryd.prog 15 #[.int .i64 wd, .int .u64 a, fl c z s o p] w fun e w' => e = .returned (.tuple #[.int .u64 (r : Nat), fl c x1 x2 x3 x4]) ∧ Below w.heap.size w w' := by
  have hA := Lib.hid ((F5.new w c z s o p).alloc fl0)
  have hB := Lib.hid (F5.new (w.alloc (flw c z s o p)) false false false false false)
  have hb0 : Below w.heap.size w ((w.alloc (flw c z s o p)).alloc fl0) := ((Below.refl _ _).alloc (Nat.le_refl _) _).alloc (by simp) _
  have hC := Lib.hid hc
  have HM := Lib.hid hm
  clear hc hm
  go_enter Tryd.func15, Tryd.ntmps15
  go_wp2_with fail
  go_at_call 9
  refine (hC.out _ ((HM.out.alloc _).alloc _)).mono ?_
  rintro e w1 ⟨rfl, hb⟩
  have hsz := hb.size
  simp only [World.size_alloc] at hsz
  have hE := Lib.hid (hb0.trans (hb.mono (by simp; omega)))
  have hA1 := Lib.hid (hA.out.keep hb)
  have hB1 := hB.out.keep hb
  rw [World.size_alloc] at hB1
  have hB1 := Lib.hid hB1
  clear hA hB hb0 hb hC HM
  go_upto_region 2 with fail
  have h1 := F5.new w1 x0 x1 x2 x3 x4
  have h2 := hA1.out.alloc (Obj.cells #[.bool x0, .bool x1, .bool x2, .bool x3, .bool x4] 24)
  have h3 := hB1.out.alloc (Obj.cells #[.bool x0, .bool x1, .bool x2, .bool x3, .bool x4] 24)
  have h4 := hE.out.alloc (show w.heap.size ≤ w1.heap.size by omega) (Obj.cells #[.bool x0, .bool x1, .bool x2, .bool x3, .bool x4] 24)
  clear hA1 hB1 hE
  generalize World.alloc _ _ = W2 at h1 h2 h3 h4 ⊢
  obtain ⟨c0, _⟩ := h2.c
  obtain ⟨c1, _⟩ := h1.c
  obtain ⟨d1, _⟩ := h1.f
  have hR : Hid (Rt w (w1.heap.size) c x1 x2 x3 x4 (w.heap.size + 1) (W2.setCell ⟨w1.heap.size, 0, none⟩ (.bool c))) := Lib.hid ⟨h1.set0, ⟨_, _, _, _, _, h3.far (by omega)⟩, h4.setCell (p := ⟨w1.heap.size, 0, none⟩) (show w.heap.size ≤ w1.heap.size by omega) _⟩
  clear h1 h2 h3 h4
  go_wp2_with fail
  clear c0 c1 d1
  generalize World.setCell _ _ _ = W3 at hR ⊢
  refine wp_region_noPanic ?_
  refine wp_region_held_drew (S := fun W => Rt w (w1.heap.size) c x1 x2 x3 x4 (w.heap.size + 1) W) (by kernel_rfl) ?_ (fun hHeld => ?_)
  · exact hR.out.drew
  generalize World.drew _ = W4 at hHeld ⊢
  refine wpAnyH_take (i := 0) (v := ?_) rfl (by kernel_rfl) (by kernel_rfl) (by kernel_rfl) (fun _ _ _ h => h) (Or.inl ⟨by kernel_rfl, ?_⟩) (by assumption) ?_
  rotate_left
  · intro w hSw
    go_simp
    try with_reducible rfl
  simp only [Act.put, List.setIfInBounds_toArray, List.set_cons_zero, List.set_cons_succ, List.getElem_toArray, List.getElem_cons_succ, List.getElem_cons_zero]
  refine wpAnyH_take (i := 1) (v := ?_) rfl (by kernel_rfl) (by kernel_rfl) (by kernel_rfl) (fun _ _ _ h => h) (Or.inl ⟨by kernel_rfl, ?_⟩) (by assumption) ?_
  rotate_left
  · intro w hSw
    obtain ⟨g0, g1, g2, g3, g4⟩ := hSw.1.c
    go_simp
    try with_reducible rfl
  simp only [Act.put, List.setIfInBounds_toArray, List.set_cons_zero, List.set_cons_succ, List.getElem_toArray, List.getElem_cons_succ, List.getElem_cons_zero]
  refine wpAnyH_ready (rs := [2]) (by kernel_rfl) (by simp) ?_
  refine AllReadyH.cons rfl (fun K hK => ?_) AllReadyH.nil
  go_simp
  refine hK.out _ _ hHeld (fun hHeld2 => ?_)
  clear hK K hHeld
  have hHeld := hHeld2
  clear hHeld2
  try simp only [Act.put, List.setIfInBounds_toArray, List.set_cons_zero, List.set_cons_succ, List.getElem_toArray, List.getElem_cons_succ, List.getElem_cons_zero]
  refine wpAnyH_ready (rs := [3]) (by kernel_rfl) (by simp) ?_
  refine AllReadyH.cons rfl (fun K hK => ?_) AllReadyH.nil
  obtain ⟨y0, y1, y2, y3, y4, hy⟩ := hHeld.2.1
  obtain ⟨g0, g1, g2, g3, g4⟩ := hy.c
  obtain ⟨f0, f1, f2, f3, f4⟩ := hy.f
  go_simp
  have h9 := Lib.hid (hHeld.put (by omega))
  refine hK.out _ _ h9.out.1 (fun hHeld2 => ?_)
  clear hK K hHeld hHeld2 g0 g1 g2 g3 g4 f0 f1 f2 f3 f4 hy
  try simp only [Act.put, List.setIfInBounds_toArray, List.set_cons_zero, List.set_cons_succ, List.getElem_toArray, List.getElem_cons_succ, List.getElem_cons_zero]
  refine wpAnyH_done (by kernel_rfl) ?_ _
  refine NoPanic.normal ?_
  generalize World.setCell (World.setCell (World.setCell (World.setCell (World.setCell _ _ _) _ _) _ _) _ _) _ _ = W9 at h9 ⊢
  obtain ⟨⟨_, _, hbl⟩, hF⟩ := h9.out
  obtain ⟨g0, g1, g2, g3, g4⟩ := hF.c
  clear h9
  go_wp2
  exact bodyPost_ret (v := .tuple #[.int .u64 (r : Nat), fl c x1 x2 x3 x4]) (by simp [results, Tryd.results15, go_sem, *]) rfl ⟨rfl, hbl⟩
theorem rinc_any (a : Nat) (ha : U a) (c z s o p : Bool) (wd : Int) (w : World) (hm : Mk w) :
    Calls Tryd.prog 15 #[.int .i64 wd, .int .u64 a, fl c z s o p] w fun e w' => e = .returned (.tuple #[.int .u64 (addR a 1 false wd : Nat), fl c (zB (addR a 1 false wd) wd) (sB (addR a 1 false wd) wd) (addV a 1 false wd) (pB (addR a 1 false wd))]) ∧ Below w.heap.size w w' :=
  rinc_core a _ (addO a 1 false wd) _ _ _ _ c z s o p wd w hm (fun W hW => radd13_any a 1 ha (by unfold U; decide) false wd W)
set_option maxHeartbeats 1000000 in
theorem rdec_core (a r : Nat) (x0 x1 x2 x3 x4 c z s o p : Bool) (wd : Int) (w : World) (hm : Mk w)
    (hc : ∀ W, Mk W → Calls Tryd.prog 11 #[.int .i64 wd, .int .u64 a, .int .u64 1, .bool false] W fun e w' => e = .returned (.tuple #[.int .u64 (r : Nat), fl x0 x1 x2 x3 x4]) ∧ Below W.heap.size W w') :
    Calls Tryd.prog 17 #[.int .i64 wd, .int .u64 a, fl c z s o p] w fun e w' => e = .returned (.tuple #[.int .u64 (r : Nat), fl c x1 x2 x3 x4]) ∧ Below w.heap.size w w' := by
  have hA := Lib.hid ((F5.new w c z s o p).alloc fl0)
  have hB := Lib.hid (F5.new (w.alloc (flw c z s o p)) false false false false false)
  have hb0 : Below w.heap.size w ((w.alloc (flw c z s o p)).alloc fl0) := ((Below.refl _ _).alloc (Nat.le_refl _) _).alloc (by simp) _
  have hC := Lib.hid hc
  have HM := Lib.hid hm
  clear hc hm
  go_enter Tryd.func17, Tryd.ntmps17
  go_wp2_with fail
  go_at_call 11
  refine (hC.out _ ((HM.out.alloc _).alloc _)).mono ?_
  rintro e w1 ⟨rfl, hb⟩
  have hsz := hb.size
  simp only [World.size_alloc] at hsz
  have hE := Lib.hid (hb0.trans (hb.mono (by simp; omega)))
  have hA1 := Lib.hid (hA.out.keep hb)
  have hB1 := hB.out.keep hb
  rw [World.size_alloc] at hB1
  have hB1 := Lib.hid hB1
  clear hA hB hb0 hb hC HM
  go_upto_region 2 with fail
  have h1 := F5.new w1 x0 x1 x2 x3 x4
  have h2 := hA1.out.alloc (Obj.cells #[.bool x0, .bool x1, .bool x2, .bool x3, .bool x4] 24)
  have h3 := hB1.out.alloc (Obj.cells #[.bool x0, .bool x1, .bool x2, .bool x3, .bool x4] 24)
  have h4 := hE.out.alloc (show w.heap.size ≤ w1.heap.size by omega) (Obj.cells #[.bool x0, .bool x1, .bool x2, .bool x3, .bool x4] 24)
  clear hA1 hB1 hE
  generalize World.alloc _ _ = W2 at h1 h2 h3 h4 ⊢
  obtain ⟨c0, _⟩ := h2.c
  obtain ⟨c1, _⟩ := h1.c
  obtain ⟨d1, _⟩ := h1.f
  have hR : Hid (Rt w (w1.heap.size) c x1 x2 x3 x4 (w.heap.size + 1) (W2.setCell ⟨w1.heap.size, 0, none⟩ (.bool c))) := Lib.hid ⟨h1.set0, ⟨_, _, _, _, _, h3.far (by omega)⟩, h4.setCell (p := ⟨w1.heap.size, 0, none⟩) (show w.heap.size ≤ w1.heap.size by omega) _⟩
  clear h1 h2 h3 h4
  go_wp2_with fail
  clear c0 c1 d1
  generalize World.setCell _ _ _ = W3 at hR ⊢
  refine wp_region_noPanic ?_
  refine wp_region_held_drew (S := fun W => Rt w (w1.heap.size) c x1 x2 x3 x4 (w.heap.size + 1) W) (by kernel_rfl) ?_ (fun hHeld => ?_)
  · exact hR.out.drew
  generalize World.drew _ = W4 at hHeld ⊢
  refine wpAnyH_take (i := 0) (v := ?_) rfl (by kernel_rfl) (by kernel_rfl) (by kernel_rfl) (fun _ _ _ h => h) (Or.inl ⟨by kernel_rfl, ?_⟩) (by assumption) ?_
  rotate_left
  · intro w hSw
    go_simp
    try with_reducible rfl
  simp only [Act.put, List.setIfInBounds_toArray, List.set_cons_zero, List.set_cons_succ, List.getElem_toArray, List.getElem_cons_succ, List.getElem_cons_zero]
  refine wpAnyH_take (i := 1) (v := ?_) rfl (by kernel_rfl) (by kernel_rfl) (by kernel_rfl) (fun _ _ _ h => h) (Or.inl ⟨by kernel_rfl, ?_⟩) (by assumption) ?_
  rotate_left
  · intro w hSw
    obtain ⟨g0, g1, g2, g3, g4⟩ := hSw.1.c
    go_simp
    try with_reducible rfl
  simp only [Act.put, List.setIfInBounds_toArray, List.set_cons_zero, List.set_cons_succ, List.getElem_toArray, List.getElem_cons_succ, List.getElem_cons_zero]
  refine wpAnyH_ready (rs := [2]) (by kernel_rfl) (by simp) ?_
  refine AllReadyH.cons rfl (fun K hK => ?_) AllReadyH.nil
  go_simp
  refine hK.out _ _ hHeld (fun hHeld2 => ?_)
  clear hK K hHeld
  have hHeld := hHeld2
  clear hHeld2
  try simp only [Act.put, List.setIfInBounds_toArray, List.set_cons_zero, List.set_cons_succ, List.getElem_toArray, List.getElem_cons_succ, List.getElem_cons_zero]
  refine wpAnyH_ready (rs := [3]) (by kernel_rfl) (by simp) ?_
  refine AllReadyH.cons rfl (fun K hK => ?_) AllReadyH.nil
  obtain ⟨y0, y1, y2, y3, y4, hy⟩ := hHeld.2.1
  obtain ⟨g0, g1, g2, g3, g4⟩ := hy.c
  obtain ⟨f0, f1, f2, f3, f4⟩ := hy.f
  go_simp
  have h9 := Lib.hid (hHeld.put (by omega))
  refine hK.out _ _ h9.out.1 (fun hHeld2 => ?_)
  clear hK K hHeld hHeld2 g0 g1 g2 g3 g4 f0 f1 f2 f3 f4 hy
  try simp only [Act.put, List.setIfInBounds_toArray, List.set_cons_zero, List.set_cons_succ, List.getElem_toArray, List.getElem_cons_succ, List.getElem_cons_zero]
  refine wpAnyH_done (by kernel_rfl) ?_ _
  refine NoPanic.normal ?_
  generalize World.setCell (World.setCell (World.setCell (World.setCell (World.setCell _ _ _) _ _) _ _) _ _) _ _ = W9 at h9 ⊢
  obtain ⟨⟨_, _, hbl⟩, hF⟩ := h9.out
  obtain ⟨g0, g1, g2, g3, g4⟩ := hF.c
  clear h9
  go_wp2
  exact bodyPost_ret (v := .tuple #[.int .u64 (r : Nat), fl c x1 x2 x3 x4]) (by simp [results, Tryd.results17, go_sem, *]) rfl ⟨rfl, hbl⟩
theorem rdec_any (a : Nat) (ha : U a) (c z s o p : Bool) (wd : Int) (w : World) (hm : Mk w) :
    Calls Tryd.prog 17 #[.int .i64 wd, .int .u64 a, fl c z s o p] w fun e w' => e = .returned (.tuple #[.int .u64 (subR a 1 false wd : Nat), fl c (zB (subR a 1 false wd) wd) (sB (subR a 1 false wd) wd) (subV a 1 false wd) (pB (subR a 1 false wd))]) ∧ Below w.heap.size w w' :=
  rdec_core a _ (subO a 1 false wd) _ _ _ _ c z s o p wd w hm (fun W hW => rsub13_any a 1 ha (by unfold U; decide) false wd W)
set_option maxHeartbeats 1000000 in
theorem rneg_core (a r : Nat) (x0 x1 x2 x3 x4 : Bool) (wd : Int) (w : World)
    (hc : ∀ W, Calls Tryd.prog 11 #[.int .i64 wd, .int .u64 0, .int .u64 a, .bool false] W fun e w' => e = .returned (.tuple #[.int .u64 (r : Nat), fl x0 x1 x2 x3 x4]) ∧ Below W.heap.size W w') :
    Calls Tryd.prog 19 #[.int .i64 wd, .int .u64 a] w fun e w' => e = .returned (.tuple #[.int .u64 (r : Nat), fl x0 x1 x2 x3 x4]) ∧ Below w.heap.size w w' := by
  have hB := Lib.hid (F5.new w false false false false false)
  have hb0 : Below w.heap.size w (w.alloc fl0) := (Below.refl _ _).alloc (Nat.le_refl _) _
  have hC := Lib.hid hc
  clear hc
  go_enter Tryd.func19, Tryd.ntmps19
  go_wp2_with fail
  go_at_call 11
  refine (hC.out _).mono ?_
  rintro e w1 ⟨rfl, hb⟩
  have hE := hb0.trans (hb.mono (by simp))
  have hB1 := hB.out.keep hb
  obtain ⟨c0, c1, c2, c3, c4⟩ := hB1.c
  obtain ⟨d0, d1, d2, d3, d4⟩ := hB1.f
  have HE := Lib.hid (below_put (y0 := x0) (y1 := x1) (y2 := x2) (y3 := x3) (y4 := x4) hE (Nat.le_refl _))
  have HP := Lib.hid (hB1.put (y0 := x0) (y1 := x1) (y2 := x2) (y3 := x3) (y4 := x4))
  clear hE hB1 hB hb0 hb hC
  go_wp2_with fail
  exact bodyPost_ret (v := .tuple #[.int .u64 (r : Nat), fl x0 x1 x2 x3 x4]) (by obtain ⟨g0, g1, g2, g3, g4⟩ := HP.out.c; simp [results, Tryd.results19, go_sem, *]) rfl ⟨rfl, HE.out⟩
theorem rneg_any (a : Nat) (ha : U a) (wd : Int) (w : World) :
    Calls Tryd.prog 19 #[.int .i64 wd, .int .u64 a] w fun e w' => e = .returned (.tuple #[.int .u64 (subR 0 a false wd : Nat), fl (subO 0 a false wd) (zB (subR 0 a false wd) wd) (sB (subR 0 a false wd) wd) (subV 0 a false wd) (pB (subR 0 a false wd))]) ∧ Below w.heap.size w w' :=
  rneg_core a _ _ _ _ _ _ wd w (fun W => rsub13_any 0 a (by unfold U; decide) ha false wd W)
end Go.Proofs.YtmfoeolllobidaaDoor
