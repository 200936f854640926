/- The document's own shifts: shl. The document's own shifts: shr. The document's own shifts: sar. The document's own shifts: rol. The document's own shifts: ror. -/
import Derived.Test.YtmfoeolllobidaaDoorInc
import Derived.Test.YtmfoeolllobidaaDoorSha
import Derived.Deep.DeepCutAuto
namespace Go.Proofs.YtmfoeolllobidaaDoor
open Go.RowKit Go.Shelf
set_option linter.unusedSimpArgs false
set_option linter.unusedVariables false
attribute [local go_sem] Oper.semAt_some
set_option maxRecDepth 100000 in
set_option maxHeartbeats 2000000 in
theorem rsh_shl_core_ff (x a m k : Nat) (R X : Nat → Nat) (T L Cv : Nat → Bool) (wd : Int) (c z s o p Z S P SA : Bool) (hk0 : 0 < k) (hk64 : k < 64) (hR0 : R 0 = a)
    (hcount : ∀ W, Calls Tryd.prog 44 #[.int .i64 wd, .int .u8 (m : Int)] W fun e w' => e = .returned (.int .i64 (k : Int)) ∧ W = w')
    (hcut : ∀ W, Calls Tryd.prog 29 #[.int .u64 (x : Int), .int .i64 wd] W fun e w' => e = .returned (.int .u64 (a : Int)) ∧ W = w')
    (hsg : ∀ j, ∀ W, Calls Tryd.prog 39 #[.int .u64 (R j : Int), .int .i64 wd] W fun e w' => e = .returned (.bool (T j)) ∧ W = w')
    (hlow : ∀ j, (bits .and .u64 (R j : Int) 1 == 1) = L j)
    (hst : ∀ j, ∀ W, Calls Tryd.prog 29 #[.int .u64 (IntKind.u64.wrap ((R j : Int) * 2)), .int .i64 wd] W fun e w' => e = .returned (.int .u64 (R (j + 1) : Int)) ∧ W = w')
    (hlo : ∀ W, Calls Tryd.prog 13 #[.int .i64 wd, .int .u64 (R k : Int)] W fun e w' => e = .returned (fl false Z false false P) ∧ Below W.heap.size W w')
    (hcv : ∀ j, Cv (j + 1) = T j)
    (hO : Cv k = false) (w : World) :
    Calls Tryd.prog 21 #[.int .u8 16, .int .i64 wd, .int .u64 x, .int .u8 (m : Int), fl c z s o p] w fun e w' => e = .returned (.tuple #[.int .u64 (R k : Nat), fl false Z false false P]) ∧ Below w.heap.size w w' := by
  have HCOUNT := Lib.hid hcount
  have HCUT := Lib.hid hcut
  have HSG := Lib.hid hsg
  have HLOW := Lib.hid hlow
  have HST := Lib.hid hst
  have HLO := Lib.hid hlo
  have HCV := Lib.hid hcv
  have HO := Lib.hid hO
  have HR0 := Lib.hid hR0
  have HK0 := Lib.hid hk0
  have ek : ((k : Int) == 0) = false := by simp; omega
  clear hcount hcut hsg hlow hst hlo hcv hO hR0 hk0
  go_enter Tryd.func21, Tryd.ntmps21
  go_wp2_with (first | (go_at_call 44; (with_reducible refine (HCOUNT.out _).mono ?_); rintro e w1 ⟨rfl, rfl⟩) | (go_at_call 29; (with_reducible refine (HCUT.out _).mono ?_); rintro e w1 ⟨rfl, rfl⟩))
  go_loopw [13, 15] (fun r i W => ∃ j : Nat, j ≤ k ∧ i = .int .i64 j ∧ r = .int .u64 (R j : Int) ∧ F5 W (w.heap.size + 1 + 1) (if j = 0 then c else Cv j) z s o p ∧ F5 W (w.heap.size + 1) false false false false false ∧ Below w.heap.size w W) (fun _ i _ => k - (intOf i).toNat)
  case atStart =>
    refine ⟨0, by omega, rfl, by rw [HR0.out], ?_, ?_, (((Below.refl _ _).alloc (Nat.le_refl _) _).alloc (by simp) _).alloc (by simp; omega) _⟩
    · have := F5.new ((w.alloc (flw c z s o p)).alloc fl0) c z s o p
      rw [World.size_alloc, World.size_alloc] at this
      exact this
    · have := (F5.new (w.alloc (flw c z s o p)) false false false false false).alloc (flw c z s o p)
      rw [World.size_alloc] at this
      exact this
  case round =>
    obtain ⟨j, hj, rfl, rfl, hF, hD, hB⟩ := hrel
    by_cases hlt : j < k
    · have e1 := HLOW.out j
      have HF := Lib.hid hF
      have HD := Lib.hid hD
      have HB := Lib.hid hB
      obtain ⟨c0, _⟩ := hF.c
      obtain ⟨d0, _⟩ := hF.f
      clear hF hD hB
      go_wp2_with (first | (go_at_call 39; (with_reducible refine (HSG.out _ _).mono ?_); rintro e w3 ⟨rfl, rfl⟩) | (go_at_call 29; (with_reducible refine (HST.out _ _).mono ?_); rintro e w4 ⟨rfl, rfl⟩))
      exact ⟨⟨j + 1, by omega, by simp, rfl, by rw [if_neg (by omega), HCV.out j]; exact HF.out.set0, HD.out.far (by omega), HB.out.setCell (p := ⟨w.heap.size + 1 + 1, 0, none⟩) (by simp; omega) _⟩, by simp [intOf]; omega⟩
    · obtain rfl : j = k := by omega
      rw [if_neg (by have := HK0.out; omega), HO.out] at hF
      have HF := Lib.hid hF
      have HD := Lib.hid hD
      have HB := Lib.hid hB
      obtain ⟨c0, _⟩ := hF.c
      clear hF hD hB
      go_wp2_with fail
      go_at_call 13
      refine (HLO.out _).mono ?_
      rintro e w1 ⟨rfl, hb⟩
      have h1 := HF.out.keep hb
      obtain ⟨c0', c1, c2, c3, c4⟩ := h1.c
      obtain ⟨d0, d1, d2, d3, d4⟩ := h1.f
      have h2 : F5 _ _ false Z false false P := h1.put (y0 := false) (y1 := Z) (y2 := false) (y3 := false) (y4 := P)
      have h3 := (HD.out.keep hb).far5 (p := w.heap.size + 1 + 1) (y0 := false) (y1 := Z) (y2 := false) (y3 := false) (y4 := P) (by omega)
      have h4 := below_put (p := w.heap.size + 1 + 1) (y0 := false) (y1 := Z) (y2 := false) (y3 := false) (y4 := P) (HB.out.trans (hb.mono HB.out.size)) (by omega)
      have H2 := Lib.hid h2
      have H3 := Lib.hid h3
      have H4 := Lib.hid h4
      clear HF HD HB h2 h3 h4 h1 hb
      go_upto_region 33 with fail
      clear c0 c0' c1 c2 c3 c4 d0 d1 d2 d3 d4
      generalize World.setCell (World.setCell (World.setCell (World.setCell (World.setCell _ _ _) _ _) _ _) _ _) _ _ = W2 at H2 H3 H4 ⊢
      obtain ⟨c0, c1, c2, c3, c4⟩ := H2.out.c
      obtain ⟨d0, d1, d2, d3, d4⟩ := H2.out.f
      have hR : Hid (Rt w (w.heap.size + 1 + 1) false Z false false P (w.heap.size + 1) ((W2.setCell ⟨w.heap.size + 1 + 1, 0, none⟩ (.bool false)).setCell ⟨w.heap.size + 1 + 1, 3, none⟩ (.bool false))) := Lib.hid ⟨H2.out.set0.set3, ⟨_, _, _, _, _, (H3.out.far (by omega)).far (by omega)⟩, (H4.out.setCell (p := ⟨w.heap.size + 1 + 1, 0, none⟩) (by simp; omega) _).setCell (p := ⟨w.heap.size + 1 + 1, 3, none⟩) (by simp; omega) _⟩
      go_wp2_with fail
      clear c0 c1 c2 c3 c4 d0 d1 d2 d3 d4
      generalize World.setCell (World.setCell _ _ _) _ _ = W3 at hR ⊢
      refine wp_region_noPanic ?_
      refine wp_region_held_drew (S := fun W => Rt w (w.heap.size + 1 + 1) false Z false false P (w.heap.size + 1) W) (by kernel_rfl) ?_ (fun hHeld => ?_)
      · exact hR.out.drew
      generalize World.drew _ = W4 at hHeld ⊢
      refine wpAnyH_take (i := 0) (v := ?_) rfl (by kernel_rfl) (by kernel_rfl) (by kernel_rfl) (fun _ _ _ h => h) (Or.inl ⟨by kernel_rfl, ?_⟩) (by assumption) ?_
      rotate_left
      · intro w hSw
        go_simp
        try with_reducible rfl
      simp only [Act.put, List.setIfInBounds_toArray, List.set_cons_zero, List.set_cons_succ, List.getElem_toArray, List.getElem_cons_succ, List.getElem_cons_zero]
      refine wpAnyH_take (i := 1) (v := ?_) rfl (by kernel_rfl) (by kernel_rfl) (by kernel_rfl) (fun _ _ _ h => h) (Or.inl ⟨by kernel_rfl, ?_⟩) (by assumption) ?_
      rotate_left
      · intro w hSw
        obtain ⟨g0, g1, g2, g3, g4⟩ := hSw.1.c
        go_simp
        try with_reducible rfl
      simp only [Act.put, List.setIfInBounds_toArray, List.set_cons_zero, List.set_cons_succ, List.getElem_toArray, List.getElem_cons_succ, List.getElem_cons_zero]
      refine wpAnyH_ready (rs := [2]) (by kernel_rfl) (by simp) ?_
      refine AllReadyH.cons rfl (fun K hK => ?_) AllReadyH.nil
      go_simp
      refine hK.out _ _ hHeld (fun hHeld2 => ?_)
      clear hK K hHeld
      have hHeld := hHeld2
      clear hHeld2
      try simp only [Act.put, List.setIfInBounds_toArray, List.set_cons_zero, List.set_cons_succ, List.getElem_toArray, List.getElem_cons_succ, List.getElem_cons_zero]
      refine wpAnyH_ready (rs := [3]) (by kernel_rfl) (by simp) ?_
      refine AllReadyH.cons rfl (fun K hK => ?_) AllReadyH.nil
      obtain ⟨y0, y1, y2, y3, y4, hy⟩ := hHeld.2.1
      obtain ⟨g0, g1, g2, g3, g4⟩ := hy.c
      obtain ⟨f0, f1, f2, f3, f4⟩ := hy.f
      go_simp
      have h9 := Lib.hid (hHeld.put (by omega))
      refine hK.out _ _ h9.out.1 (fun hHeld2 => ?_)
      clear hK K hHeld hHeld2 g0 g1 g2 g3 g4 f0 f1 f2 f3 f4 hy
      try simp only [Act.put, List.setIfInBounds_toArray, List.set_cons_zero, List.set_cons_succ, List.getElem_toArray, List.getElem_cons_succ, List.getElem_cons_zero]
      refine wpAnyH_done (by kernel_rfl) ?_ _
      refine NoPanic.normal ?_
      generalize World.setCell (World.setCell (World.setCell (World.setCell (World.setCell _ _ _) _ _) _ _) _ _) _ _ = W9 at h9 ⊢
      obtain ⟨⟨_, _, hbl⟩, hF⟩ := h9.out
      obtain ⟨g0, g1, g2, g3, g4⟩ := hF.c
      clear h9
      go_wp2
      exact bodyPost_ret (v := .tuple #[.int .u64 (R j : Nat), fl false Z false false P]) (by simp [results, Tryd.results21, go_sem, *]) rfl ⟨rfl, hbl⟩
set_option maxRecDepth 100000 in
set_option maxHeartbeats 2000000 in
theorem rsh_shl_core_ft (x a m k : Nat) (R X : Nat → Nat) (T L Cv : Nat → Bool) (wd : Int) (c z s o p Z S P SA : Bool) (hk0 : 0 < k) (hk64 : k < 64) (hR0 : R 0 = a)
    (hcount : ∀ W, Calls Tryd.prog 44 #[.int .i64 wd, .int .u8 (m : Int)] W fun e w' => e = .returned (.int .i64 (k : Int)) ∧ W = w')
    (hcut : ∀ W, Calls Tryd.prog 29 #[.int .u64 (x : Int), .int .i64 wd] W fun e w' => e = .returned (.int .u64 (a : Int)) ∧ W = w')
    (hsg : ∀ j, ∀ W, Calls Tryd.prog 39 #[.int .u64 (R j : Int), .int .i64 wd] W fun e w' => e = .returned (.bool (T j)) ∧ W = w')
    (hlow : ∀ j, (bits .and .u64 (R j : Int) 1 == 1) = L j)
    (hst : ∀ j, ∀ W, Calls Tryd.prog 29 #[.int .u64 (IntKind.u64.wrap ((R j : Int) * 2)), .int .i64 wd] W fun e w' => e = .returned (.int .u64 (R (j + 1) : Int)) ∧ W = w')
    (hlo : ∀ W, Calls Tryd.prog 13 #[.int .i64 wd, .int .u64 (R k : Int)] W fun e w' => e = .returned (fl false Z true false P) ∧ Below W.heap.size W w')
    (hcv : ∀ j, Cv (j + 1) = T j)
    (hO : Cv k = false) (w : World) :
    Calls Tryd.prog 21 #[.int .u8 16, .int .i64 wd, .int .u64 x, .int .u8 (m : Int), fl c z s o p] w fun e w' => e = .returned (.tuple #[.int .u64 (R k : Nat), fl false Z true true P]) ∧ Below w.heap.size w w' := by
  have HCOUNT := Lib.hid hcount
  have HCUT := Lib.hid hcut
  have HSG := Lib.hid hsg
  have HLOW := Lib.hid hlow
  have HST := Lib.hid hst
  have HLO := Lib.hid hlo
  have HCV := Lib.hid hcv
  have HO := Lib.hid hO
  have HR0 := Lib.hid hR0
  have HK0 := Lib.hid hk0
  have ek : ((k : Int) == 0) = false := by simp; omega
  clear hcount hcut hsg hlow hst hlo hcv hO hR0 hk0
  go_enter Tryd.func21, Tryd.ntmps21
  go_wp2_with (first | (go_at_call 44; (with_reducible refine (HCOUNT.out _).mono ?_); rintro e w1 ⟨rfl, rfl⟩) | (go_at_call 29; (with_reducible refine (HCUT.out _).mono ?_); rintro e w1 ⟨rfl, rfl⟩))
  go_loopw [13, 15] (fun r i W => ∃ j : Nat, j ≤ k ∧ i = .int .i64 j ∧ r = .int .u64 (R j : Int) ∧ F5 W (w.heap.size + 1 + 1) (if j = 0 then c else Cv j) z s o p ∧ F5 W (w.heap.size + 1) false false false false false ∧ Below w.heap.size w W) (fun _ i _ => k - (intOf i).toNat)
  case atStart =>
    refine ⟨0, by omega, rfl, by rw [HR0.out], ?_, ?_, (((Below.refl _ _).alloc (Nat.le_refl _) _).alloc (by simp) _).alloc (by simp; omega) _⟩
    · have := F5.new ((w.alloc (flw c z s o p)).alloc fl0) c z s o p
      rw [World.size_alloc, World.size_alloc] at this
      exact this
    · have := (F5.new (w.alloc (flw c z s o p)) false false false false false).alloc (flw c z s o p)
      rw [World.size_alloc] at this
      exact this
  case round =>
    obtain ⟨j, hj, rfl, rfl, hF, hD, hB⟩ := hrel
    by_cases hlt : j < k
    · have e1 := HLOW.out j
      have HF := Lib.hid hF
      have HD := Lib.hid hD
      have HB := Lib.hid hB
      obtain ⟨c0, _⟩ := hF.c
      obtain ⟨d0, _⟩ := hF.f
      clear hF hD hB
      go_wp2_with (first | (go_at_call 39; (with_reducible refine (HSG.out _ _).mono ?_); rintro e w3 ⟨rfl, rfl⟩) | (go_at_call 29; (with_reducible refine (HST.out _ _).mono ?_); rintro e w4 ⟨rfl, rfl⟩))
      exact ⟨⟨j + 1, by omega, by simp, rfl, by rw [if_neg (by omega), HCV.out j]; exact HF.out.set0, HD.out.far (by omega), HB.out.setCell (p := ⟨w.heap.size + 1 + 1, 0, none⟩) (by simp; omega) _⟩, by simp [intOf]; omega⟩
    · obtain rfl : j = k := by omega
      rw [if_neg (by have := HK0.out; omega), HO.out] at hF
      have HF := Lib.hid hF
      have HD := Lib.hid hD
      have HB := Lib.hid hB
      obtain ⟨c0, _⟩ := hF.c
      clear hF hD hB
      go_wp2_with fail
      go_at_call 13
      refine (HLO.out _).mono ?_
      rintro e w1 ⟨rfl, hb⟩
      have h1 := HF.out.keep hb
      obtain ⟨c0', c1, c2, c3, c4⟩ := h1.c
      obtain ⟨d0, d1, d2, d3, d4⟩ := h1.f
      have h2 : F5 _ _ false Z true false P := h1.put (y0 := false) (y1 := Z) (y2 := true) (y3 := false) (y4 := P)
      have h3 := (HD.out.keep hb).far5 (p := w.heap.size + 1 + 1) (y0 := false) (y1 := Z) (y2 := true) (y3 := false) (y4 := P) (by omega)
      have h4 := below_put (p := w.heap.size + 1 + 1) (y0 := false) (y1 := Z) (y2 := true) (y3 := false) (y4 := P) (HB.out.trans (hb.mono HB.out.size)) (by omega)
      have H2 := Lib.hid h2
      have H3 := Lib.hid h3
      have H4 := Lib.hid h4
      clear HF HD HB h2 h3 h4 h1 hb
      go_upto_region 33 with fail
      clear c0 c0' c1 c2 c3 c4 d0 d1 d2 d3 d4
      generalize World.setCell (World.setCell (World.setCell (World.setCell (World.setCell _ _ _) _ _) _ _) _ _) _ _ = W2 at H2 H3 H4 ⊢
      obtain ⟨c0, c1, c2, c3, c4⟩ := H2.out.c
      obtain ⟨d0, d1, d2, d3, d4⟩ := H2.out.f
      have hR : Hid (Rt w (w.heap.size + 1 + 1) false Z true true P (w.heap.size + 1) ((W2.setCell ⟨w.heap.size + 1 + 1, 0, none⟩ (.bool false)).setCell ⟨w.heap.size + 1 + 1, 3, none⟩ (.bool true))) := Lib.hid ⟨H2.out.set0.set3, ⟨_, _, _, _, _, (H3.out.far (by omega)).far (by omega)⟩, (H4.out.setCell (p := ⟨w.heap.size + 1 + 1, 0, none⟩) (by simp; omega) _).setCell (p := ⟨w.heap.size + 1 + 1, 3, none⟩) (by simp; omega) _⟩
      go_wp2_with fail
      clear c0 c1 c2 c3 c4 d0 d1 d2 d3 d4
      generalize World.setCell (World.setCell _ _ _) _ _ = W3 at hR ⊢
      refine wp_region_noPanic ?_
      refine wp_region_held_drew (S := fun W => Rt w (w.heap.size + 1 + 1) false Z true true P (w.heap.size + 1) W) (by kernel_rfl) ?_ (fun hHeld => ?_)
      · exact hR.out.drew
      generalize World.drew _ = W4 at hHeld ⊢
      refine wpAnyH_take (i := 0) (v := ?_) rfl (by kernel_rfl) (by kernel_rfl) (by kernel_rfl) (fun _ _ _ h => h) (Or.inl ⟨by kernel_rfl, ?_⟩) (by assumption) ?_
      rotate_left
      · intro w hSw
        go_simp
        try with_reducible rfl
      simp only [Act.put, List.setIfInBounds_toArray, List.set_cons_zero, List.set_cons_succ, List.getElem_toArray, List.getElem_cons_succ, List.getElem_cons_zero]
      refine wpAnyH_take (i := 1) (v := ?_) rfl (by kernel_rfl) (by kernel_rfl) (by kernel_rfl) (fun _ _ _ h => h) (Or.inl ⟨by kernel_rfl, ?_⟩) (by assumption) ?_
      rotate_left
      · intro w hSw
        obtain ⟨g0, g1, g2, g3, g4⟩ := hSw.1.c
        go_simp
        try with_reducible rfl
      simp only [Act.put, List.setIfInBounds_toArray, List.set_cons_zero, List.set_cons_succ, List.getElem_toArray, List.getElem_cons_succ, List.getElem_cons_zero]
      refine wpAnyH_ready (rs := [2]) (by kernel_rfl) (by simp) ?_
      refine AllReadyH.cons rfl (fun K hK => ?_) AllReadyH.nil
      go_simp
      refine hK.out _ _ hHeld (fun hHeld2 => ?_)
      clear hK K hHeld
      have hHeld := hHeld2
      clear hHeld2
      try simp only [Act.put, List.setIfInBounds_toArray, List.set_cons_zero, List.set_cons_succ, List.getElem_toArray, List.getElem_cons_succ, List.getElem_cons_zero]
      refine wpAnyH_ready (rs := [3]) (by kernel_rfl) (by simp) ?_
      refine AllReadyH.cons rfl (fun K hK => ?_) AllReadyH.nil
      obtain ⟨y0, y1, y2, y3, y4, hy⟩ := hHeld.2.1
      obtain ⟨g0, g1, g2, g3, g4⟩ := hy.c
      obtain ⟨f0, f1, f2, f3, f4⟩ := hy.f
      go_simp
      have h9 := Lib.hid (hHeld.put (by omega))
      refine hK.out _ _ h9.out.1 (fun hHeld2 => ?_)
      clear hK K hHeld hHeld2 g0 g1 g2 g3 g4 f0 f1 f2 f3 f4 hy
      try simp only [Act.put, List.setIfInBounds_toArray, List.set_cons_zero, List.set_cons_succ, List.getElem_toArray, List.getElem_cons_succ, List.getElem_cons_zero]
      refine wpAnyH_done (by kernel_rfl) ?_ _
      refine NoPanic.normal ?_
      generalize World.setCell (World.setCell (World.setCell (World.setCell (World.setCell _ _ _) _ _) _ _) _ _) _ _ = W9 at h9 ⊢
      obtain ⟨⟨_, _, hbl⟩, hF⟩ := h9.out
      obtain ⟨g0, g1, g2, g3, g4⟩ := hF.c
      clear h9
      go_wp2
      exact bodyPost_ret (v := .tuple #[.int .u64 (R j : Nat), fl false Z true true P]) (by simp [results, Tryd.results21, go_sem, *]) rfl ⟨rfl, hbl⟩
set_option maxRecDepth 100000 in
set_option maxHeartbeats 2000000 in
theorem rsh_shl_core_tf (x a m k : Nat) (R X : Nat → Nat) (T L Cv : Nat → Bool) (wd : Int) (c z s o p Z S P SA : Bool) (hk0 : 0 < k) (hk64 : k < 64) (hR0 : R 0 = a)
    (hcount : ∀ W, Calls Tryd.prog 44 #[.int .i64 wd, .int .u8 (m : Int)] W fun e w' => e = .returned (.int .i64 (k : Int)) ∧ W = w')
    (hcut : ∀ W, Calls Tryd.prog 29 #[.int .u64 (x : Int), .int .i64 wd] W fun e w' => e = .returned (.int .u64 (a : Int)) ∧ W = w')
    (hsg : ∀ j, ∀ W, Calls Tryd.prog 39 #[.int .u64 (R j : Int), .int .i64 wd] W fun e w' => e = .returned (.bool (T j)) ∧ W = w')
    (hlow : ∀ j, (bits .and .u64 (R j : Int) 1 == 1) = L j)
    (hst : ∀ j, ∀ W, Calls Tryd.prog 29 #[.int .u64 (IntKind.u64.wrap ((R j : Int) * 2)), .int .i64 wd] W fun e w' => e = .returned (.int .u64 (R (j + 1) : Int)) ∧ W = w')
    (hlo : ∀ W, Calls Tryd.prog 13 #[.int .i64 wd, .int .u64 (R k : Int)] W fun e w' => e = .returned (fl false Z false false P) ∧ Below W.heap.size W w')
    (hcv : ∀ j, Cv (j + 1) = T j)
    (hO : Cv k = true) (w : World) :
    Calls Tryd.prog 21 #[.int .u8 16, .int .i64 wd, .int .u64 x, .int .u8 (m : Int), fl c z s o p] w fun e w' => e = .returned (.tuple #[.int .u64 (R k : Nat), fl true Z false true P]) ∧ Below w.heap.size w w' := by
  have HCOUNT := Lib.hid hcount
  have HCUT := Lib.hid hcut
  have HSG := Lib.hid hsg
  have HLOW := Lib.hid hlow
  have HST := Lib.hid hst
  have HLO := Lib.hid hlo
  have HCV := Lib.hid hcv
  have HO := Lib.hid hO
  have HR0 := Lib.hid hR0
  have HK0 := Lib.hid hk0
  have ek : ((k : Int) == 0) = false := by simp; omega
  clear hcount hcut hsg hlow hst hlo hcv hO hR0 hk0
  go_enter Tryd.func21, Tryd.ntmps21
  go_wp2_with (first | (go_at_call 44; (with_reducible refine (HCOUNT.out _).mono ?_); rintro e w1 ⟨rfl, rfl⟩) | (go_at_call 29; (with_reducible refine (HCUT.out _).mono ?_); rintro e w1 ⟨rfl, rfl⟩))
  go_loopw [13, 15] (fun r i W => ∃ j : Nat, j ≤ k ∧ i = .int .i64 j ∧ r = .int .u64 (R j : Int) ∧ F5 W (w.heap.size + 1 + 1) (if j = 0 then c else Cv j) z s o p ∧ F5 W (w.heap.size + 1) false false false false false ∧ Below w.heap.size w W) (fun _ i _ => k - (intOf i).toNat)
  case atStart =>
    refine ⟨0, by omega, rfl, by rw [HR0.out], ?_, ?_, (((Below.refl _ _).alloc (Nat.le_refl _) _).alloc (by simp) _).alloc (by simp; omega) _⟩
    · have := F5.new ((w.alloc (flw c z s o p)).alloc fl0) c z s o p
      rw [World.size_alloc, World.size_alloc] at this
      exact this
    · have := (F5.new (w.alloc (flw c z s o p)) false false false false false).alloc (flw c z s o p)
      rw [World.size_alloc] at this
      exact this
  case round =>
    obtain ⟨j, hj, rfl, rfl, hF, hD, hB⟩ := hrel
    by_cases hlt : j < k
    · have e1 := HLOW.out j
      have HF := Lib.hid hF
      have HD := Lib.hid hD
      have HB := Lib.hid hB
      obtain ⟨c0, _⟩ := hF.c
      obtain ⟨d0, _⟩ := hF.f
      clear hF hD hB
      go_wp2_with (first | (go_at_call 39; (with_reducible refine (HSG.out _ _).mono ?_); rintro e w3 ⟨rfl, rfl⟩) | (go_at_call 29; (with_reducible refine (HST.out _ _).mono ?_); rintro e w4 ⟨rfl, rfl⟩))
      exact ⟨⟨j + 1, by omega, by simp, rfl, by rw [if_neg (by omega), HCV.out j]; exact HF.out.set0, HD.out.far (by omega), HB.out.setCell (p := ⟨w.heap.size + 1 + 1, 0, none⟩) (by simp; omega) _⟩, by simp [intOf]; omega⟩
    · obtain rfl : j = k := by omega
      rw [if_neg (by have := HK0.out; omega), HO.out] at hF
      have HF := Lib.hid hF
      have HD := Lib.hid hD
      have HB := Lib.hid hB
      obtain ⟨c0, _⟩ := hF.c
      clear hF hD hB
      go_wp2_with fail
      go_at_call 13
      refine (HLO.out _).mono ?_
      rintro e w1 ⟨rfl, hb⟩
      have h1 := HF.out.keep hb
      obtain ⟨c0', c1, c2, c3, c4⟩ := h1.c
      obtain ⟨d0, d1, d2, d3, d4⟩ := h1.f
      have h2 : F5 _ _ false Z false false P := h1.put (y0 := false) (y1 := Z) (y2 := false) (y3 := false) (y4 := P)
      have h3 := (HD.out.keep hb).far5 (p := w.heap.size + 1 + 1) (y0 := false) (y1 := Z) (y2 := false) (y3 := false) (y4 := P) (by omega)
      have h4 := below_put (p := w.heap.size + 1 + 1) (y0 := false) (y1 := Z) (y2 := false) (y3 := false) (y4 := P) (HB.out.trans (hb.mono HB.out.size)) (by omega)
      have H2 := Lib.hid h2
      have H3 := Lib.hid h3
      have H4 := Lib.hid h4
      clear HF HD HB h2 h3 h4 h1 hb
      go_upto_region 33 with fail
      clear c0 c0' c1 c2 c3 c4 d0 d1 d2 d3 d4
      generalize World.setCell (World.setCell (World.setCell (World.setCell (World.setCell _ _ _) _ _) _ _) _ _) _ _ = W2 at H2 H3 H4 ⊢
      obtain ⟨c0, c1, c2, c3, c4⟩ := H2.out.c
      obtain ⟨d0, d1, d2, d3, d4⟩ := H2.out.f
      have hR : Hid (Rt w (w.heap.size + 1 + 1) true Z false true P (w.heap.size + 1) ((W2.setCell ⟨w.heap.size + 1 + 1, 0, none⟩ (.bool true)).setCell ⟨w.heap.size + 1 + 1, 3, none⟩ (.bool true))) := Lib.hid ⟨H2.out.set0.set3, ⟨_, _, _, _, _, (H3.out.far (by omega)).far (by omega)⟩, (H4.out.setCell (p := ⟨w.heap.size + 1 + 1, 0, none⟩) (by simp; omega) _).setCell (p := ⟨w.heap.size + 1 + 1, 3, none⟩) (by simp; omega) _⟩
      go_wp2_with fail
      clear c0 c1 c2 c3 c4 d0 d1 d2 d3 d4
      generalize World.setCell (World.setCell _ _ _) _ _ = W3 at hR ⊢
      refine wp_region_noPanic ?_
      refine wp_region_held_drew (S := fun W => Rt w (w.heap.size + 1 + 1) true Z false true P (w.heap.size + 1) W) (by kernel_rfl) ?_ (fun hHeld => ?_)
      · exact hR.out.drew
      generalize World.drew _ = W4 at hHeld ⊢
      refine wpAnyH_take (i := 0) (v := ?_) rfl (by kernel_rfl) (by kernel_rfl) (by kernel_rfl) (fun _ _ _ h => h) (Or.inl ⟨by kernel_rfl, ?_⟩) (by assumption) ?_
      rotate_left
      · intro w hSw
        go_simp
        try with_reducible rfl
      simp only [Act.put, List.setIfInBounds_toArray, List.set_cons_zero, List.set_cons_succ, List.getElem_toArray, List.getElem_cons_succ, List.getElem_cons_zero]
      refine wpAnyH_take (i := 1) (v := ?_) rfl (by kernel_rfl) (by kernel_rfl) (by kernel_rfl) (fun _ _ _ h => h) (Or.inl ⟨by kernel_rfl, ?_⟩) (by assumption) ?_
      rotate_left
      · intro w hSw
        obtain ⟨g0, g1, g2, g3, g4⟩ := hSw.1.c
        go_simp
        try with_reducible rfl
      simp only [Act.put, List.setIfInBounds_toArray, List.set_cons_zero, List.set_cons_succ, List.getElem_toArray, List.getElem_cons_succ, List.getElem_cons_zero]
      refine wpAnyH_ready (rs := [2]) (by kernel_rfl) (by simp) ?_
      refine AllReadyH.cons rfl (fun K hK => ?_) AllReadyH.nil
      go_simp
      refine hK.out _ _ hHeld (fun hHeld2 => ?_)
      clear hK K hHeld
      have hHeld := hHeld2
      clear hHeld2
      try simp only [Act.put, List.setIfInBounds_toArray, List.set_cons_zero, List.set_cons_succ, List.getElem_toArray, List.getElem_cons_succ, List.getElem_cons_zero]
      refine wpAnyH_ready (rs := [3]) (by kernel_rfl) (by simp) ?_
      refine AllReadyH.cons rfl (fun K hK => ?_) AllReadyH.nil
      obtain ⟨y0, y1, y2, y3, y4, hy⟩ := hHeld.2.1
      obtain ⟨g0, g1, g2, g3, g4⟩ := hy.c
      obtain ⟨f0, f1, f2, f3, f4⟩ := hy.f
      go_simp
      have h9 := Lib.hid (hHeld.put (by omega))
      refine hK.out _ _ h9.out.1 (fun hHeld2 => ?_)
      clear hK K hHeld hHeld2 g0 g1 g2 g3 g4 f0 f1 f2 f3 f4 hy
      try simp only [Act.put, List.setIfInBounds_toArray, List.set_cons_zero, List.set_cons_succ, List.getElem_toArray, List.getElem_cons_succ, List.getElem_cons_zero]
      refine wpAnyH_done (by kernel_rfl) ?_ _
      refine NoPanic.normal ?_
      generalize World.setCell (World.setCell (World.setCell (World.setCell (World.setCell _ _ _) _ _) _ _) _ _) _ _ = W9 at h9 ⊢
      obtain ⟨⟨_, _, hbl⟩, hF⟩ := h9.out
      obtain ⟨g0, g1, g2, g3, g4⟩ := hF.c
      clear h9
      go_wp2
      exact bodyPost_ret (v := .tuple #[.int .u64 (R j : Nat), fl true Z false true P]) (by simp [results, Tryd.results21, go_sem, *]) rfl ⟨rfl, hbl⟩
set_option maxRecDepth 100000 in
set_option maxHeartbeats 2000000 in
theorem rsh_shl_core_tt (x a m k : Nat) (R X : Nat → Nat) (T L Cv : Nat → Bool) (wd : Int) (c z s o p Z S P SA : Bool) (hk0 : 0 < k) (hk64 : k < 64) (hR0 : R 0 = a)
    (hcount : ∀ W, Calls Tryd.prog 44 #[.int .i64 wd, .int .u8 (m : Int)] W fun e w' => e = .returned (.int .i64 (k : Int)) ∧ W = w')
    (hcut : ∀ W, Calls Tryd.prog 29 #[.int .u64 (x : Int), .int .i64 wd] W fun e w' => e = .returned (.int .u64 (a : Int)) ∧ W = w')
    (hsg : ∀ j, ∀ W, Calls Tryd.prog 39 #[.int .u64 (R j : Int), .int .i64 wd] W fun e w' => e = .returned (.bool (T j)) ∧ W = w')
    (hlow : ∀ j, (bits .and .u64 (R j : Int) 1 == 1) = L j)
    (hst : ∀ j, ∀ W, Calls Tryd.prog 29 #[.int .u64 (IntKind.u64.wrap ((R j : Int) * 2)), .int .i64 wd] W fun e w' => e = .returned (.int .u64 (R (j + 1) : Int)) ∧ W = w')
    (hlo : ∀ W, Calls Tryd.prog 13 #[.int .i64 wd, .int .u64 (R k : Int)] W fun e w' => e = .returned (fl false Z true false P) ∧ Below W.heap.size W w')
    (hcv : ∀ j, Cv (j + 1) = T j)
    (hO : Cv k = true) (w : World) :
    Calls Tryd.prog 21 #[.int .u8 16, .int .i64 wd, .int .u64 x, .int .u8 (m : Int), fl c z s o p] w fun e w' => e = .returned (.tuple #[.int .u64 (R k : Nat), fl true Z true false P]) ∧ Below w.heap.size w w' := by
  have HCOUNT := Lib.hid hcount
  have HCUT := Lib.hid hcut
  have HSG := Lib.hid hsg
  have HLOW := Lib.hid hlow
  have HST := Lib.hid hst
  have HLO := Lib.hid hlo
  have HCV := Lib.hid hcv
  have HO := Lib.hid hO
  have HR0 := Lib.hid hR0
  have HK0 := Lib.hid hk0
  have ek : ((k : Int) == 0) = false := by simp; omega
  clear hcount hcut hsg hlow hst hlo hcv hO hR0 hk0
  go_enter Tryd.func21, Tryd.ntmps21
  go_wp2_with (first | (go_at_call 44; (with_reducible refine (HCOUNT.out _).mono ?_); rintro e w1 ⟨rfl, rfl⟩) | (go_at_call 29; (with_reducible refine (HCUT.out _).mono ?_); rintro e w1 ⟨rfl, rfl⟩))
  go_loopw [13, 15] (fun r i W => ∃ j : Nat, j ≤ k ∧ i = .int .i64 j ∧ r = .int .u64 (R j : Int) ∧ F5 W (w.heap.size + 1 + 1) (if j = 0 then c else Cv j) z s o p ∧ F5 W (w.heap.size + 1) false false false false false ∧ Below w.heap.size w W) (fun _ i _ => k - (intOf i).toNat)
  case atStart =>
    refine ⟨0, by omega, rfl, by rw [HR0.out], ?_, ?_, (((Below.refl _ _).alloc (Nat.le_refl _) _).alloc (by simp) _).alloc (by simp; omega) _⟩
    · have := F5.new ((w.alloc (flw c z s o p)).alloc fl0) c z s o p
      rw [World.size_alloc, World.size_alloc] at this
      exact this
    · have := (F5.new (w.alloc (flw c z s o p)) false false false false false).alloc (flw c z s o p)
      rw [World.size_alloc] at this
      exact this
  case round =>
    obtain ⟨j, hj, rfl, rfl, hF, hD, hB⟩ := hrel
    by_cases hlt : j < k
    · have e1 := HLOW.out j
      have HF := Lib.hid hF
      have HD := Lib.hid hD
      have HB := Lib.hid hB
      obtain ⟨c0, _⟩ := hF.c
      obtain ⟨d0, _⟩ := hF.f
      clear hF hD hB
      go_wp2_with (first | (go_at_call 39; (with_reducible refine (HSG.out _ _).mono ?_); rintro e w3 ⟨rfl, rfl⟩) | (go_at_call 29; (with_reducible refine (HST.out _ _).mono ?_); rintro e w4 ⟨rfl, rfl⟩))
      exact ⟨⟨j + 1, by omega, by simp, rfl, by rw [if_neg (by omega), HCV.out j]; exact HF.out.set0, HD.out.far (by omega), HB.out.setCell (p := ⟨w.heap.size + 1 + 1, 0, none⟩) (by simp; omega) _⟩, by simp [intOf]; omega⟩
    · obtain rfl : j = k := by omega
      rw [if_neg (by have := HK0.out; omega), HO.out] at hF
      have HF := Lib.hid hF
      have HD := Lib.hid hD
      have HB := Lib.hid hB
      obtain ⟨c0, _⟩ := hF.c
      clear hF hD hB
      go_wp2_with fail
      go_at_call 13
      refine (HLO.out _).mono ?_
      rintro e w1 ⟨rfl, hb⟩
      have h1 := HF.out.keep hb
      obtain ⟨c0', c1, c2, c3, c4⟩ := h1.c
      obtain ⟨d0, d1, d2, d3, d4⟩ := h1.f
      have h2 : F5 _ _ false Z true false P := h1.put (y0 := false) (y1 := Z) (y2 := true) (y3 := false) (y4 := P)
      have h3 := (HD.out.keep hb).far5 (p := w.heap.size + 1 + 1) (y0 := false) (y1 := Z) (y2 := true) (y3 := false) (y4 := P) (by omega)
      have h4 := below_put (p := w.heap.size + 1 + 1) (y0 := false) (y1 := Z) (y2 := true) (y3 := false) (y4 := P) (HB.out.trans (hb.mono HB.out.size)) (by omega)
      have H2 := Lib.hid h2
      have H3 := Lib.hid h3
      have H4 := Lib.hid h4
      clear HF HD HB h2 h3 h4 h1 hb
      go_upto_region 33 with fail
      clear c0 c0' c1 c2 c3 c4 d0 d1 d2 d3 d4
      generalize World.setCell (World.setCell (World.setCell (World.setCell (World.setCell _ _ _) _ _) _ _) _ _) _ _ = W2 at H2 H3 H4 ⊢
      obtain ⟨c0, c1, c2, c3, c4⟩ := H2.out.c
      obtain ⟨d0, d1, d2, d3, d4⟩ := H2.out.f
      have hR : Hid (Rt w (w.heap.size + 1 + 1) true Z true false P (w.heap.size + 1) ((W2.setCell ⟨w.heap.size + 1 + 1, 0, none⟩ (.bool true)).setCell ⟨w.heap.size + 1 + 1, 3, none⟩ (.bool false))) := Lib.hid ⟨H2.out.set0.set3, ⟨_, _, _, _, _, (H3.out.far (by omega)).far (by omega)⟩, (H4.out.setCell (p := ⟨w.heap.size + 1 + 1, 0, none⟩) (by simp; omega) _).setCell (p := ⟨w.heap.size + 1 + 1, 3, none⟩) (by simp; omega) _⟩
      go_wp2_with fail
      clear c0 c1 c2 c3 c4 d0 d1 d2 d3 d4
      generalize World.setCell (World.setCell _ _ _) _ _ = W3 at hR ⊢
      refine wp_region_noPanic ?_
      refine wp_region_held_drew (S := fun W => Rt w (w.heap.size + 1 + 1) true Z true false P (w.heap.size + 1) W) (by kernel_rfl) ?_ (fun hHeld => ?_)
      · exact hR.out.drew
      generalize World.drew _ = W4 at hHeld ⊢
      refine wpAnyH_take (i := 0) (v := ?_) rfl (by kernel_rfl) (by kernel_rfl) (by kernel_rfl) (fun _ _ _ h => h) (Or.inl ⟨by kernel_rfl, ?_⟩) (by assumption) ?_
      rotate_left
      · intro w hSw
        go_simp
        try with_reducible rfl
      simp only [Act.put, List.setIfInBounds_toArray, List.set_cons_zero, List.set_cons_succ, List.getElem_toArray, List.getElem_cons_succ, List.getElem_cons_zero]
      refine wpAnyH_take (i := 1) (v := ?_) rfl (by kernel_rfl) (by kernel_rfl) (by kernel_rfl) (fun _ _ _ h => h) (Or.inl ⟨by kernel_rfl, ?_⟩) (by assumption) ?_
      rotate_left
      · intro w hSw
        obtain ⟨g0, g1, g2, g3, g4⟩ := hSw.1.c
        go_simp
        try with_reducible rfl
      simp only [Act.put, List.setIfInBounds_toArray, List.set_cons_zero, List.set_cons_succ, List.getElem_toArray, List.getElem_cons_succ, List.getElem_cons_zero]
      refine wpAnyH_ready (rs := [2]) (by kernel_rfl) (by simp) ?_
      refine AllReadyH.cons rfl (fun K hK => ?_) AllReadyH.nil
      go_simp
      refine hK.out _ _ hHeld (fun hHeld2 => ?_)
      clear hK K hHeld
      have hHeld := hHeld2
      clear hHeld2
      try simp only [Act.put, List.setIfInBounds_toArray, List.set_cons_zero, List.set_cons_succ, List.getElem_toArray, List.getElem_cons_succ, List.getElem_cons_zero]
      refine wpAnyH_ready (rs := [3]) (by kernel_rfl) (by simp) ?_
      refine AllReadyH.cons rfl (fun K hK => ?_) AllReadyH.nil
      obtain ⟨y0, y1, y2, y3, y4, hy⟩ := hHeld.2.1
      obtain ⟨g0, g1, g2, g3, g4⟩ := hy.c
      obtain ⟨f0, f1, f2, f3, f4⟩ := hy.f
      go_simp
      have h9 := Lib.hid (hHeld.put (by omega))
      refine hK.out _ _ h9.out.1 (fun hHeld2 => ?_)
      clear hK K hHeld hHeld2 g0 g1 g2 g3 g4 f0 f1 f2 f3 f4 hy
      try simp only [Act.put, List.setIfInBounds_toArray, List.set_cons_zero, List.set_cons_succ, List.getElem_toArray, List.getElem_cons_succ, List.getElem_cons_zero]
      refine wpAnyH_done (by kernel_rfl) ?_ _
      refine NoPanic.normal ?_
      generalize World.setCell (World.setCell (World.setCell (World.setCell (World.setCell _ _ _) _ _) _ _) _ _) _ _ = W9 at h9 ⊢
      obtain ⟨⟨_, _, hbl⟩, hF⟩ := h9.out
      obtain ⟨g0, g1, g2, g3, g4⟩ := hF.c
      clear h9
      go_wp2
      exact bodyPost_ret (v := .tuple #[.int .u64 (R j : Nat), fl true Z true false P]) (by simp [results, Tryd.results21, go_sem, *]) rfl ⟨rfl, hbl⟩
open Go.RowKit Go.Shelf
set_option linter.unusedSimpArgs false
set_option linter.unusedVariables false
attribute [local go_sem] Oper.semAt_some
set_option maxRecDepth 100000 in
set_option maxHeartbeats 2000000 in
theorem rsh_shr_core (x a m k : Nat) (R X : Nat → Nat) (T L Cv : Nat → Bool) (wd : Int) (c z s o p Z S P SA : Bool) (hk0 : 0 < k) (hk64 : k < 64) (hR0 : R 0 = a)
    (hcount : ∀ W, Calls Tryd.prog 44 #[.int .i64 wd, .int .u8 (m : Int)] W fun e w' => e = .returned (.int .i64 (k : Int)) ∧ W = w')
    (hcut : ∀ W, Calls Tryd.prog 29 #[.int .u64 (x : Int), .int .i64 wd] W fun e w' => e = .returned (.int .u64 (a : Int)) ∧ W = w')
    (hsg : ∀ j, ∀ W, Calls Tryd.prog 39 #[.int .u64 (R j : Int), .int .i64 wd] W fun e w' => e = .returned (.bool (T j)) ∧ W = w')
    (hlow : ∀ j, (bits .and .u64 (R j : Int) 1 == 1) = L j)
    (hst : ∀ j, ((R j : Int) / 2) = (R (j + 1) : Int))
    (hlo : ∀ W, Calls Tryd.prog 13 #[.int .i64 wd, .int .u64 (R k : Int)] W fun e w' => e = .returned (fl false Z S false P) ∧ Below W.heap.size W w')
    (hcv : ∀ j, Cv (j + 1) = L j)
    (hsa : ∀ W, Calls Tryd.prog 39 #[.int .u64 (a : Int), .int .i64 wd] W fun e w' => e = .returned (.bool SA) ∧ W = w') (w : World) :
    Calls Tryd.prog 21 #[.int .u8 17, .int .i64 wd, .int .u64 x, .int .u8 (m : Int), fl c z s o p] w fun e w' => e = .returned (.tuple #[.int .u64 (R k : Nat), fl (Cv k) Z S SA P]) ∧ Below w.heap.size w w' := by
  have HCOUNT := Lib.hid hcount
  have HCUT := Lib.hid hcut
  have HSG := Lib.hid hsg
  have HLOW := Lib.hid hlow
  have HST := Lib.hid hst
  have HLO := Lib.hid hlo
  have HCV := Lib.hid hcv
  have HSA := Lib.hid hsa
  have HR0 := Lib.hid hR0
  have HK0 := Lib.hid hk0
  have ek : ((k : Int) == 0) = false := by simp; omega
  clear hcount hcut hsg hlow hst hlo hcv hsa hR0 hk0
  go_enter Tryd.func21, Tryd.ntmps21
  go_wp2_with (first | (go_at_call 44; (with_reducible refine (HCOUNT.out _).mono ?_); rintro e w1 ⟨rfl, rfl⟩) | (go_at_call 29; (with_reducible refine (HCUT.out _).mono ?_); rintro e w1 ⟨rfl, rfl⟩))
  go_loopw [13, 15] (fun r i W => ∃ j : Nat, j ≤ k ∧ i = .int .i64 j ∧ r = .int .u64 (R j : Int) ∧ F5 W (w.heap.size + 1 + 1) (if j = 0 then c else Cv j) z s o p ∧ F5 W (w.heap.size + 1) false false false false false ∧ Below w.heap.size w W) (fun _ i _ => k - (intOf i).toNat)
  case atStart =>
    refine ⟨0, by omega, rfl, by rw [HR0.out], ?_, ?_, (((Below.refl _ _).alloc (Nat.le_refl _) _).alloc (by simp) _).alloc (by simp; omega) _⟩
    · have := F5.new ((w.alloc (flw c z s o p)).alloc fl0) c z s o p
      rw [World.size_alloc, World.size_alloc] at this
      exact this
    · have := (F5.new (w.alloc (flw c z s o p)) false false false false false).alloc (flw c z s o p)
      rw [World.size_alloc] at this
      exact this
  case round =>
    obtain ⟨j, hj, rfl, rfl, hF, hD, hB⟩ := hrel
    by_cases hlt : j < k
    · have e1 := HLOW.out j
      have HF := Lib.hid hF
      have HD := Lib.hid hD
      have HB := Lib.hid hB
      obtain ⟨c0, _⟩ := hF.c
      obtain ⟨d0, _⟩ := hF.f
      clear hF hD hB
      have e2 := HST.out j
      go_wp2_with (first | (go_at_call 39; (with_reducible refine (HSG.out _ _).mono ?_); rintro e w3 ⟨rfl, rfl⟩) | fail)
      exact ⟨⟨j + 1, by omega, by simp, rfl, by rw [if_neg (by omega), HCV.out j]; exact HF.out.set0, HD.out.far (by omega), HB.out.setCell (p := ⟨w.heap.size + 1 + 1, 0, none⟩) (by simp; omega) _⟩, by simp [intOf]; omega⟩
    · obtain rfl : j = k := by omega
      rw [if_neg (by have := HK0.out; omega)] at hF
      have HF := Lib.hid hF
      have HD := Lib.hid hD
      have HB := Lib.hid hB
      obtain ⟨c0, _⟩ := hF.c
      clear hF hD hB
      go_wp2_with fail
      go_at_call 13
      refine (HLO.out _).mono ?_
      rintro e w1 ⟨rfl, hb⟩
      have h1 := HF.out.keep hb
      obtain ⟨c0', c1, c2, c3, c4⟩ := h1.c
      obtain ⟨d0, d1, d2, d3, d4⟩ := h1.f
      have h2 : F5 _ _ false Z S false P := h1.put (y0 := false) (y1 := Z) (y2 := S) (y3 := false) (y4 := P)
      have h3 := (HD.out.keep hb).far5 (p := w.heap.size + 1 + 1) (y0 := false) (y1 := Z) (y2 := S) (y3 := false) (y4 := P) (by omega)
      have h4 := below_put (p := w.heap.size + 1 + 1) (y0 := false) (y1 := Z) (y2 := S) (y3 := false) (y4 := P) (HB.out.trans (hb.mono HB.out.size)) (by omega)
      have H2 := Lib.hid h2
      have H3 := Lib.hid h3
      have H4 := Lib.hid h4
      clear HF HD HB h2 h3 h4 h1 hb
      go_upto_region 33 with fail
      clear c0 c0' c1 c2 c3 c4 d0 d1 d2 d3 d4
      generalize World.setCell (World.setCell (World.setCell (World.setCell (World.setCell _ _ _) _ _) _ _) _ _) _ _ = W2 at H2 H3 H4 ⊢
      obtain ⟨c0, c1, c2, c3, c4⟩ := H2.out.c
      obtain ⟨d0, d1, d2, d3, d4⟩ := H2.out.f
      have hR : Hid (Rt w (w.heap.size + 1 + 1) (Cv j) Z S SA P (w.heap.size + 1) ((W2.setCell ⟨w.heap.size + 1 + 1, 0, none⟩ (.bool (Cv j))).setCell ⟨w.heap.size + 1 + 1, 3, none⟩ (.bool SA))) := Lib.hid ⟨H2.out.set0.set3, ⟨_, _, _, _, _, (H3.out.far (by omega)).far (by omega)⟩, (H4.out.setCell (p := ⟨w.heap.size + 1 + 1, 0, none⟩) (by simp; omega) _).setCell (p := ⟨w.heap.size + 1 + 1, 3, none⟩) (by simp; omega) _⟩
      go_wp2_with (go_at_call 39; (with_reducible refine (HSA.out _).mono ?_); rintro e w3 ⟨rfl, rfl⟩)
      clear c0 c1 c2 c3 c4 d0 d1 d2 d3 d4
      generalize World.setCell (World.setCell _ _ _) _ _ = W3 at hR ⊢
      refine wp_region_noPanic ?_
      refine wp_region_held_drew (S := fun W => Rt w (w.heap.size + 1 + 1) (Cv j) Z S SA P (w.heap.size + 1) W) (by kernel_rfl) ?_ (fun hHeld => ?_)
      · exact hR.out.drew
      generalize World.drew _ = W4 at hHeld ⊢
      refine wpAnyH_take (i := 0) (v := ?_) rfl (by kernel_rfl) (by kernel_rfl) (by kernel_rfl) (fun _ _ _ h => h) (Or.inl ⟨by kernel_rfl, ?_⟩) (by assumption) ?_
      rotate_left
      · intro w hSw
        go_simp
        try with_reducible rfl
      simp only [Act.put, List.setIfInBounds_toArray, List.set_cons_zero, List.set_cons_succ, List.getElem_toArray, List.getElem_cons_succ, List.getElem_cons_zero]
      refine wpAnyH_take (i := 1) (v := ?_) rfl (by kernel_rfl) (by kernel_rfl) (by kernel_rfl) (fun _ _ _ h => h) (Or.inl ⟨by kernel_rfl, ?_⟩) (by assumption) ?_
      rotate_left
      · intro w hSw
        obtain ⟨g0, g1, g2, g3, g4⟩ := hSw.1.c
        go_simp
        try with_reducible rfl
      simp only [Act.put, List.setIfInBounds_toArray, List.set_cons_zero, List.set_cons_succ, List.getElem_toArray, List.getElem_cons_succ, List.getElem_cons_zero]
      refine wpAnyH_ready (rs := [2]) (by kernel_rfl) (by simp) ?_
      refine AllReadyH.cons rfl (fun K hK => ?_) AllReadyH.nil
      go_simp
      refine hK.out _ _ hHeld (fun hHeld2 => ?_)
      clear hK K hHeld
      have hHeld := hHeld2
      clear hHeld2
      try simp only [Act.put, List.setIfInBounds_toArray, List.set_cons_zero, List.set_cons_succ, List.getElem_toArray, List.getElem_cons_succ, List.getElem_cons_zero]
      refine wpAnyH_ready (rs := [3]) (by kernel_rfl) (by simp) ?_
      refine AllReadyH.cons rfl (fun K hK => ?_) AllReadyH.nil
      obtain ⟨y0, y1, y2, y3, y4, hy⟩ := hHeld.2.1
      obtain ⟨g0, g1, g2, g3, g4⟩ := hy.c
      obtain ⟨f0, f1, f2, f3, f4⟩ := hy.f
      go_simp
      have h9 := Lib.hid (hHeld.put (by omega))
      refine hK.out _ _ h9.out.1 (fun hHeld2 => ?_)
      clear hK K hHeld hHeld2 g0 g1 g2 g3 g4 f0 f1 f2 f3 f4 hy
      try simp only [Act.put, List.setIfInBounds_toArray, List.set_cons_zero, List.set_cons_succ, List.getElem_toArray, List.getElem_cons_succ, List.getElem_cons_zero]
      refine wpAnyH_done (by kernel_rfl) ?_ _
      refine NoPanic.normal ?_
      generalize World.setCell (World.setCell (World.setCell (World.setCell (World.setCell _ _ _) _ _) _ _) _ _) _ _ = W9 at h9 ⊢
      obtain ⟨⟨_, _, hbl⟩, hF⟩ := h9.out
      obtain ⟨g0, g1, g2, g3, g4⟩ := hF.c
      clear h9
      go_wp2
      exact bodyPost_ret (v := .tuple #[.int .u64 (R j : Nat), fl (Cv j) Z S SA P]) (by simp [results, Tryd.results21, go_sem, *]) rfl ⟨rfl, hbl⟩
open Go.RowKit Go.Shelf
set_option linter.unusedSimpArgs false
set_option linter.unusedVariables false
attribute [local go_sem] Oper.semAt_some
set_option maxRecDepth 100000 in
set_option maxHeartbeats 2000000 in
theorem rsh_sar_core (x a m k : Nat) (R X : Nat → Nat) (T L Cv : Nat → Bool) (wd : Int) (c z s o p Z S P SA : Bool) (hk0 : 0 < k) (hk64 : k < 64) (hR0 : R 0 = a)
    (hcount : ∀ W, Calls Tryd.prog 44 #[.int .i64 wd, .int .u8 (m : Int)] W fun e w' => e = .returned (.int .i64 (k : Int)) ∧ W = w')
    (hcut : ∀ W, Calls Tryd.prog 29 #[.int .u64 (x : Int), .int .i64 wd] W fun e w' => e = .returned (.int .u64 (a : Int)) ∧ W = w')
    (hsg : ∀ j, ∀ W, Calls Tryd.prog 39 #[.int .u64 (R j : Int), .int .i64 wd] W fun e w' => e = .returned (.bool (T j)) ∧ W = w')
    (hlow : ∀ j, (bits .and .u64 (R j : Int) 1 == 1) = L j)
    (hex : ∀ j, ∀ W, Calls Tryd.prog 31 #[.int .u64 (R j : Int), .int .i64 wd] W fun e w' => e = .returned (.int .u64 (X j : Int)) ∧ W = w')
    (hst : ∀ j, ∀ W, Calls Tryd.prog 29 #[.int .u64 (IntKind.u64.wrap (wrap64 (X j : Int) / 2)), .int .i64 wd] W fun e w' => e = .returned (.int .u64 (R (j + 1) : Int)) ∧ W = w')
    (hlo : ∀ W, Calls Tryd.prog 13 #[.int .i64 wd, .int .u64 (R k : Int)] W fun e w' => e = .returned (fl false Z S false P) ∧ Below W.heap.size W w')
    (hcv : ∀ j, Cv (j + 1) = L j) (w : World) :
    Calls Tryd.prog 21 #[.int .u8 18, .int .i64 wd, .int .u64 x, .int .u8 (m : Int), fl c z s o p] w fun e w' => e = .returned (.tuple #[.int .u64 (R k : Nat), fl (Cv k) Z S false P]) ∧ Below w.heap.size w w' := by
  have HCOUNT := Lib.hid hcount
  have HCUT := Lib.hid hcut
  have HSG := Lib.hid hsg
  have HLOW := Lib.hid hlow
  have HST := Lib.hid hst
  have HLO := Lib.hid hlo
  have HCV := Lib.hid hcv
  have HEX := Lib.hid hex
  have HR0 := Lib.hid hR0
  have HK0 := Lib.hid hk0
  have ek : ((k : Int) == 0) = false := by simp; omega
  clear hcount hcut hsg hlow hst hlo hcv hex hR0 hk0
  go_enter Tryd.func21, Tryd.ntmps21
  go_wp2_with (first | (go_at_call 44; (with_reducible refine (HCOUNT.out _).mono ?_); rintro e w1 ⟨rfl, rfl⟩) | (go_at_call 29; (with_reducible refine (HCUT.out _).mono ?_); rintro e w1 ⟨rfl, rfl⟩))
  go_loopw [13, 15] (fun r i W => ∃ j : Nat, j ≤ k ∧ i = .int .i64 j ∧ r = .int .u64 (R j : Int) ∧ F5 W (w.heap.size + 1 + 1) (if j = 0 then c else Cv j) z s o p ∧ F5 W (w.heap.size + 1) false false false false false ∧ Below w.heap.size w W) (fun _ i _ => k - (intOf i).toNat)
  case atStart =>
    refine ⟨0, by omega, rfl, by rw [HR0.out], ?_, ?_, (((Below.refl _ _).alloc (Nat.le_refl _) _).alloc (by simp) _).alloc (by simp; omega) _⟩
    · have := F5.new ((w.alloc (flw c z s o p)).alloc fl0) c z s o p
      rw [World.size_alloc, World.size_alloc] at this
      exact this
    · have := (F5.new (w.alloc (flw c z s o p)) false false false false false).alloc (flw c z s o p)
      rw [World.size_alloc] at this
      exact this
  case round =>
    obtain ⟨j, hj, rfl, rfl, hF, hD, hB⟩ := hrel
    by_cases hlt : j < k
    · have e1 := HLOW.out j
      have HF := Lib.hid hF
      have HD := Lib.hid hD
      have HB := Lib.hid hB
      obtain ⟨c0, _⟩ := hF.c
      obtain ⟨d0, _⟩ := hF.f
      clear hF hD hB
      go_wp2_with (first | (go_at_call 39; (with_reducible refine (HSG.out _ _).mono ?_); rintro e w3 ⟨rfl, rfl⟩) | (first | (go_at_call 31; (with_reducible refine (HEX.out _ _).mono ?_); rintro e w4 ⟨rfl, rfl⟩) | (go_at_call 29; (with_reducible refine (HST.out _ _).mono ?_); rintro e w5 ⟨rfl, rfl⟩)))
      exact ⟨⟨j + 1, by omega, by simp, rfl, by rw [if_neg (by omega), HCV.out j]; exact HF.out.set0, HD.out.far (by omega), HB.out.setCell (p := ⟨w.heap.size + 1 + 1, 0, none⟩) (by simp; omega) _⟩, by simp [intOf]; omega⟩
    · obtain rfl : j = k := by omega
      rw [if_neg (by have := HK0.out; omega)] at hF
      have HF := Lib.hid hF
      have HD := Lib.hid hD
      have HB := Lib.hid hB
      obtain ⟨c0, _⟩ := hF.c
      clear hF hD hB
      go_wp2_with fail
      go_at_call 13
      refine (HLO.out _).mono ?_
      rintro e w1 ⟨rfl, hb⟩
      have h1 := HF.out.keep hb
      obtain ⟨c0', c1, c2, c3, c4⟩ := h1.c
      obtain ⟨d0, d1, d2, d3, d4⟩ := h1.f
      have h2 : F5 _ _ false Z S false P := h1.put (y0 := false) (y1 := Z) (y2 := S) (y3 := false) (y4 := P)
      have h3 := (HD.out.keep hb).far5 (p := w.heap.size + 1 + 1) (y0 := false) (y1 := Z) (y2 := S) (y3 := false) (y4 := P) (by omega)
      have h4 := below_put (p := w.heap.size + 1 + 1) (y0 := false) (y1 := Z) (y2 := S) (y3 := false) (y4 := P) (HB.out.trans (hb.mono HB.out.size)) (by omega)
      have H2 := Lib.hid h2
      have H3 := Lib.hid h3
      have H4 := Lib.hid h4
      clear HF HD HB h2 h3 h4 h1 hb
      go_upto_region 33 with fail
      clear c0 c0' c1 c2 c3 c4 d0 d1 d2 d3 d4
      generalize World.setCell (World.setCell (World.setCell (World.setCell (World.setCell _ _ _) _ _) _ _) _ _) _ _ = W2 at H2 H3 H4 ⊢
      obtain ⟨c0, c1, c2, c3, c4⟩ := H2.out.c
      obtain ⟨d0, d1, d2, d3, d4⟩ := H2.out.f
      have hR : Hid (Rt w (w.heap.size + 1 + 1) (Cv j) Z S false P (w.heap.size + 1) ((W2.setCell ⟨w.heap.size + 1 + 1, 0, none⟩ (.bool (Cv j))).setCell ⟨w.heap.size + 1 + 1, 3, none⟩ (.bool false))) := Lib.hid ⟨H2.out.set0.set3, ⟨_, _, _, _, _, (H3.out.far (by omega)).far (by omega)⟩, (H4.out.setCell (p := ⟨w.heap.size + 1 + 1, 0, none⟩) (by simp; omega) _).setCell (p := ⟨w.heap.size + 1 + 1, 3, none⟩) (by simp; omega) _⟩
      go_wp2_with fail
      clear c0 c1 c2 c3 c4 d0 d1 d2 d3 d4
      generalize World.setCell (World.setCell _ _ _) _ _ = W3 at hR ⊢
      refine wp_region_noPanic ?_
      refine wp_region_held_drew (S := fun W => Rt w (w.heap.size + 1 + 1) (Cv j) Z S false P (w.heap.size + 1) W) (by kernel_rfl) ?_ (fun hHeld => ?_)
      · exact hR.out.drew
      generalize World.drew _ = W4 at hHeld ⊢
      refine wpAnyH_take (i := 0) (v := ?_) rfl (by kernel_rfl) (by kernel_rfl) (by kernel_rfl) (fun _ _ _ h => h) (Or.inl ⟨by kernel_rfl, ?_⟩) (by assumption) ?_
      rotate_left
      · intro w hSw
        go_simp
        try with_reducible rfl
      simp only [Act.put, List.setIfInBounds_toArray, List.set_cons_zero, List.set_cons_succ, List.getElem_toArray, List.getElem_cons_succ, List.getElem_cons_zero]
      refine wpAnyH_take (i := 1) (v := ?_) rfl (by kernel_rfl) (by kernel_rfl) (by kernel_rfl) (fun _ _ _ h => h) (Or.inl ⟨by kernel_rfl, ?_⟩) (by assumption) ?_
      rotate_left
      · intro w hSw
        obtain ⟨g0, g1, g2, g3, g4⟩ := hSw.1.c
        go_simp
        try with_reducible rfl
      simp only [Act.put, List.setIfInBounds_toArray, List.set_cons_zero, List.set_cons_succ, List.getElem_toArray, List.getElem_cons_succ, List.getElem_cons_zero]
      refine wpAnyH_ready (rs := [2]) (by kernel_rfl) (by simp) ?_
      refine AllReadyH.cons rfl (fun K hK => ?_) AllReadyH.nil
      go_simp
      refine hK.out _ _ hHeld (fun hHeld2 => ?_)
      clear hK K hHeld
      have hHeld := hHeld2
      clear hHeld2
      try simp only [Act.put, List.setIfInBounds_toArray, List.set_cons_zero, List.set_cons_succ, List.getElem_toArray, List.getElem_cons_succ, List.getElem_cons_zero]
      refine wpAnyH_ready (rs := [3]) (by kernel_rfl) (by simp) ?_
      refine AllReadyH.cons rfl (fun K hK => ?_) AllReadyH.nil
      obtain ⟨y0, y1, y2, y3, y4, hy⟩ := hHeld.2.1
      obtain ⟨g0, g1, g2, g3, g4⟩ := hy.c
      obtain ⟨f0, f1, f2, f3, f4⟩ := hy.f
      go_simp
      have h9 := Lib.hid (hHeld.put (by omega))
      refine hK.out _ _ h9.out.1 (fun hHeld2 => ?_)
      clear hK K hHeld hHeld2 g0 g1 g2 g3 g4 f0 f1 f2 f3 f4 hy
      try simp only [Act.put, List.setIfInBounds_toArray, List.set_cons_zero, List.set_cons_succ, List.getElem_toArray, List.getElem_cons_succ, List.getElem_cons_zero]
      refine wpAnyH_done (by kernel_rfl) ?_ _
      refine NoPanic.normal ?_
      generalize World.setCell (World.setCell (World.setCell (World.setCell (World.setCell _ _ _) _ _) _ _) _ _) _ _ = W9 at h9 ⊢
      obtain ⟨⟨_, _, hbl⟩, hF⟩ := h9.out
      obtain ⟨g0, g1, g2, g3, g4⟩ := hF.c
      clear h9
      go_wp2
      exact bodyPost_ret (v := .tuple #[.int .u64 (R j : Nat), fl (Cv j) Z S false P]) (by simp [results, Tryd.results21, go_sem, *]) rfl ⟨rfl, hbl⟩
open Go.RowKit Go.Shelf
set_option linter.unusedSimpArgs false
set_option linter.unusedVariables false
attribute [local go_sem] Oper.semAt_some
set_option maxRecDepth 100000 in
set_option maxHeartbeats 2000000 in
theorem rsh_rol_core (x a m k : Nat) (R X : Nat → Nat) (T L Cv : Nat → Bool) (wd : Int) (c z s o p Z S P SA : Bool) (hk0 : 0 < k) (hk64 : k < 64) (hR0 : R 0 = a)
    (hcount : ∀ W, Calls Tryd.prog 44 #[.int .i64 wd, .int .u8 (m : Int)] W fun e w' => e = .returned (.int .i64 (k : Int)) ∧ W = w')
    (hcut : ∀ W, Calls Tryd.prog 29 #[.int .u64 (x : Int), .int .i64 wd] W fun e w' => e = .returned (.int .u64 (a : Int)) ∧ W = w')
    (hsg : ∀ j, ∀ W, Calls Tryd.prog 39 #[.int .u64 (R j : Int), .int .i64 wd] W fun e w' => e = .returned (.bool (T j)) ∧ W = w')
    (hlow : ∀ j, (bits .and .u64 (R j : Int) 1 == 1) = L j)
    (hst : ∀ j, ∀ W, Calls Tryd.prog 45 #[.int .u64 (R j : Int), .int .i64 1, .int .i64 wd] W fun e w' => e = .returned (.int .u64 (R (j + 1) : Int)) ∧ W = w') (w : World) :
    Calls Tryd.prog 21 #[.int .u8 19, .int .i64 wd, .int .u64 x, .int .u8 (m : Int), fl c z s o p] w fun e w' => e = .returned (.tuple #[.int .u64 (R k : Nat), fl (L k) z s (T k != L k) p]) ∧ Below w.heap.size w w' := by
  have HCOUNT := Lib.hid hcount
  have HCUT := Lib.hid hcut
  have HSG := Lib.hid hsg
  have HLOW := Lib.hid hlow
  have HST := Lib.hid hst
  have HR0 := Lib.hid hR0
  have HK0 := Lib.hid hk0
  have ek : ((k : Int) == 0) = false := by simp; omega
  clear hcount hcut hsg hlow hst hR0 hk0
  go_enter Tryd.func21, Tryd.ntmps21
  go_wp2_with (first | (go_at_call 44; (with_reducible refine (HCOUNT.out _).mono ?_); rintro e w1 ⟨rfl, rfl⟩) | (go_at_call 29; (with_reducible refine (HCUT.out _).mono ?_); rintro e w1 ⟨rfl, rfl⟩))
  go_loopw [13, 15] (fun r i W => ∃ j : Nat, j ≤ k ∧ i = .int .i64 j ∧ r = .int .u64 (R j : Int) ∧ F5 W (w.heap.size + 1 + 1) c z s o p ∧ F5 W (w.heap.size + 1) false false false false false ∧ Below w.heap.size w W) (fun _ i _ => k - (intOf i).toNat)
  case atStart =>
    refine ⟨0, by omega, rfl, by rw [HR0.out], ?_, ?_, (((Below.refl _ _).alloc (Nat.le_refl _) _).alloc (by simp) _).alloc (by simp; omega) _⟩
    · have := F5.new ((w.alloc (flw c z s o p)).alloc fl0) c z s o p
      rw [World.size_alloc, World.size_alloc] at this
      exact this
    · have := (F5.new (w.alloc (flw c z s o p)) false false false false false).alloc (flw c z s o p)
      rw [World.size_alloc] at this
      exact this
  case round =>
    obtain ⟨j, hj, rfl, rfl, hF, hD, hB⟩ := hrel
    by_cases hlt : j < k
    · have e1 := HLOW.out j
      have HF := Lib.hid hF
      have HD := Lib.hid hD
      have HB := Lib.hid hB
      obtain ⟨c0, _⟩ := hF.c
      obtain ⟨d0, _⟩ := hF.f
      clear hF hD hB
      go_wp2_with (first | (go_at_call 39; (with_reducible refine (HSG.out _ _).mono ?_); rintro e w3 ⟨rfl, rfl⟩) | (go_at_call 45; (with_reducible refine (HST.out _ _).mono ?_); rintro e w4 ⟨rfl, rfl⟩))
      exact ⟨⟨j + 1, by omega, by simp, rfl, HF.out, HD.out, HB.out⟩, by simp [intOf]; omega⟩
    · obtain rfl : j = k := by omega
      have e0 := HLOW.out j
      have HF := Lib.hid hF
      have HD := Lib.hid hD
      have HB := Lib.hid hB
      obtain ⟨c0, c1, c2, c3, c4⟩ := hF.c
      obtain ⟨d0, d1, d2, d3, d4⟩ := hF.f
      clear hF hD hB
      go_wp2_with (go_at_call 39; (with_reducible refine (HSG.out _ _).mono ?_); rintro e w3 ⟨rfl, rfl⟩)
      clear c0 c1 c2 c3 c4 d0 d1 d2 d3 d4
      have hR : Hid (Rt w (w.heap.size + 1 + 1) (L j) z s o p (w.heap.size + 1) (wr.setCell ⟨w.heap.size + 1 + 1, 0, none⟩ (.bool (L j)))) := Lib.hid ⟨HF.out.set0, ⟨_, _, _, _, _, HD.out.far (by omega)⟩, HB.out.setCell (p := ⟨w.heap.size + 1 + 1, 0, none⟩) (by simp; omega) _⟩
      clear HF HD HB
      generalize World.setCell _ _ _ = W2 at hR ⊢
      refine wp_region_noPanic ?_
      refine wp_region_held_drew (S := fun W => ∃ q, Rt w (w.heap.size + 1 + 1) (L j) z s q p (w.heap.size + 1) W) (by kernel_rfl) ?_ (fun hHeld => ?_)
      · exact ⟨_, hR.out.drew⟩
      generalize World.drew _ = W4 at hHeld ⊢
      refine wpAnyH_take (i := 0) (v := ?_) rfl (by kernel_rfl) (by kernel_rfl) (by kernel_rfl) (fun _ _ _ h => h) (Or.inl ⟨by kernel_rfl, ?_⟩) (by assumption) ?_
      rotate_left
      · intro w hSw
        go_simp
        try with_reducible rfl
      simp only [Act.put, List.setIfInBounds_toArray, List.set_cons_zero, List.set_cons_succ, List.getElem_toArray, List.getElem_cons_succ, List.getElem_cons_zero]
      refine wpAnyH_take (i := 1) (v := ?_) rfl (by kernel_rfl) (by kernel_rfl) (by kernel_rfl) (fun _ _ _ h => h) (Or.inl ⟨by kernel_rfl, ?_⟩) (by assumption) ?_
      rotate_left
      · intro w hSw
        go_simp
        try with_reducible rfl
      simp only [Act.put, List.setIfInBounds_toArray, List.set_cons_zero, List.set_cons_succ, List.getElem_toArray, List.getElem_cons_succ, List.getElem_cons_zero]
      refine wpAnyH_take (i := 3) (v := ?_) rfl (by kernel_rfl) (by kernel_rfl) (by kernel_rfl) (fun _ _ _ h => h) (Or.inl ⟨by kernel_rfl, ?_⟩) (by assumption) ?_
      rotate_left
      · intro w hSw
        go_simp
        try with_reducible rfl
      simp only [Act.put, List.setIfInBounds_toArray, List.set_cons_zero, List.set_cons_succ, List.getElem_toArray, List.getElem_cons_succ, List.getElem_cons_zero]
      refine wpAnyH_take (i := 4) (v := ?_) rfl (by kernel_rfl) (by kernel_rfl) (by kernel_rfl) (fun _ _ _ h => h) (Or.inl ⟨by kernel_rfl, ?_⟩) (by assumption) ?_
      rotate_left
      · intro w hSw
        obtain ⟨qq, hSq⟩ := hSw
        obtain ⟨g0, g1, g2, g3, g4⟩ := hSq.1.c
        go_simp
        try with_reducible rfl
      simp only [Act.put, List.setIfInBounds_toArray, List.set_cons_zero, List.set_cons_succ, List.getElem_toArray, List.getElem_cons_succ, List.getElem_cons_zero]
      refine wpAnyH_ready (rs := [2]) (by kernel_rfl) (by simp) ?_
      refine AllReadyH.cons rfl (fun K hK => ?_) AllReadyH.nil
      rw [if_pos (by kernel_rfl)]; go_simp; go_at_call 39; (with_reducible refine (HSG.out _ _).mono ?_); rintro e w1 ⟨rfl, rfl⟩
      refine hK.out _ _ hHeld (fun hHeld2 => ?_)
      clear hK K hHeld
      have hHeld := hHeld2
      clear hHeld2
      try simp only [Act.put, List.setIfInBounds_toArray, List.set_cons_zero, List.set_cons_succ, List.getElem_toArray, List.getElem_cons_succ, List.getElem_cons_zero]
      refine wpAnyH_take (i := 5) (v := ?_) rfl (by kernel_rfl) (by kernel_rfl) (by kernel_rfl) (fun _ _ _ h => h) (Or.inl ⟨by kernel_rfl, ?_⟩) (by assumption) ?_
      rotate_left
      · intro w hSw
        go_simp
        try with_reducible rfl
      simp only [Act.put, List.setIfInBounds_toArray, List.set_cons_zero, List.set_cons_succ, List.getElem_toArray, List.getElem_cons_succ, List.getElem_cons_zero]
      refine wpAnyH_take (i := 6) (v := ?_) rfl (by kernel_rfl) (by kernel_rfl) (by kernel_rfl) (fun _ _ _ h => h) (Or.inl ⟨by kernel_rfl, ?_⟩) (by assumption) ?_
      rotate_left
      · intro w hSw
        go_simp
        try with_reducible rfl
      simp only [Act.put, List.setIfInBounds_toArray, List.set_cons_zero, List.set_cons_succ, List.getElem_toArray, List.getElem_cons_succ, List.getElem_cons_zero]
      refine wpAnyH_ready (rs := [7]) (by kernel_rfl) (by simp) ?_
      refine AllReadyH.cons rfl (fun K hK => ?_) AllReadyH.nil
      obtain ⟨qq, hq⟩ := hHeld
      obtain ⟨g0, g1, g2, g3, g4⟩ := hq.1.c
      obtain ⟨f0, f1, f2, f3, f4⟩ := hq.1.f
      go_simp
      have h9 : Hid (Rt w (w.heap.size + 1 + 1) (L j) z s (T j != L j) p (w.heap.size + 1) (W4.setCell ⟨w.heap.size + 1 + 1, 3, none⟩ (.bool (!(T j == L j))))) := Lib.hid ⟨hq.1.set3, by obtain ⟨y0, y1, y2, y3, y4, hy⟩ := hq.2.1; exact ⟨_, _, _, _, _, hy.far (by omega)⟩, hq.2.2.setCell (p := ⟨w.heap.size + 1 + 1, 3, none⟩) (by simp; omega) _⟩
      refine hK.out _ _ ⟨_, h9.out⟩ (fun hHeld2 => ?_)
      clear hK K hq hHeld2 g0 g1 g2 g3 g4 f0 f1 f2 f3 f4
      try simp only [Act.put, List.setIfInBounds_toArray, List.set_cons_zero, List.set_cons_succ, List.getElem_toArray, List.getElem_cons_succ, List.getElem_cons_zero]
      refine wpAnyH_done (by kernel_rfl) ?_ _
      refine NoPanic.normal ?_
      generalize World.setCell _ _ _ = W3 at h9 ⊢
      have hR := h9
      clear h9
      go_wp2
      refine wp_region_noPanic ?_
      refine wp_region_held_drew (S := fun W => Rt w (w.heap.size + 1 + 1) (L j) z s (T j != L j) p (w.heap.size + 1) W) (by kernel_rfl) ?_ (fun hHeld => ?_)
      · exact hR.out.drew
      generalize World.drew _ = W4 at hHeld ⊢
      refine wpAnyH_take (i := 0) (v := ?_) rfl (by kernel_rfl) (by kernel_rfl) (by kernel_rfl) (fun _ _ _ h => h) (Or.inl ⟨by kernel_rfl, ?_⟩) (by assumption) ?_
      rotate_left
      · intro w hSw
        go_simp
        try with_reducible rfl
      simp only [Act.put, List.setIfInBounds_toArray, List.set_cons_zero, List.set_cons_succ, List.getElem_toArray, List.getElem_cons_succ, List.getElem_cons_zero]
      refine wpAnyH_take (i := 1) (v := ?_) rfl (by kernel_rfl) (by kernel_rfl) (by kernel_rfl) (fun _ _ _ h => h) (Or.inl ⟨by kernel_rfl, ?_⟩) (by assumption) ?_
      rotate_left
      · intro w hSw
        obtain ⟨g0, g1, g2, g3, g4⟩ := hSw.1.c
        go_simp
        try with_reducible rfl
      simp only [Act.put, List.setIfInBounds_toArray, List.set_cons_zero, List.set_cons_succ, List.getElem_toArray, List.getElem_cons_succ, List.getElem_cons_zero]
      refine wpAnyH_ready (rs := [2]) (by kernel_rfl) (by simp) ?_
      refine AllReadyH.cons rfl (fun K hK => ?_) AllReadyH.nil
      go_simp
      refine hK.out _ _ hHeld (fun hHeld2 => ?_)
      clear hK K hHeld
      have hHeld := hHeld2
      clear hHeld2
      try simp only [Act.put, List.setIfInBounds_toArray, List.set_cons_zero, List.set_cons_succ, List.getElem_toArray, List.getElem_cons_succ, List.getElem_cons_zero]
      refine wpAnyH_ready (rs := [3]) (by kernel_rfl) (by simp) ?_
      refine AllReadyH.cons rfl (fun K hK => ?_) AllReadyH.nil
      obtain ⟨y0, y1, y2, y3, y4, hy⟩ := hHeld.2.1
      obtain ⟨g0, g1, g2, g3, g4⟩ := hy.c
      obtain ⟨f0, f1, f2, f3, f4⟩ := hy.f
      go_simp
      have h9 := Lib.hid (hHeld.put (by omega))
      refine hK.out _ _ h9.out.1 (fun hHeld2 => ?_)
      clear hK K hHeld hHeld2 g0 g1 g2 g3 g4 f0 f1 f2 f3 f4 hy
      try simp only [Act.put, List.setIfInBounds_toArray, List.set_cons_zero, List.set_cons_succ, List.getElem_toArray, List.getElem_cons_succ, List.getElem_cons_zero]
      refine wpAnyH_done (by kernel_rfl) ?_ _
      refine NoPanic.normal ?_
      generalize World.setCell (World.setCell (World.setCell (World.setCell (World.setCell _ _ _) _ _) _ _) _ _) _ _ = W9 at h9 ⊢
      obtain ⟨⟨_, _, hbl⟩, hF⟩ := h9.out
      obtain ⟨g0, g1, g2, g3, g4⟩ := hF.c
      clear h9
      go_wp2
      exact bodyPost_ret (v := .tuple #[.int .u64 (R j : Nat), fl (L j) z s (T j != L j) p]) (by simp [results, Tryd.results21, go_sem, *]) rfl ⟨rfl, hbl⟩
open Go.RowKit Go.Shelf
set_option linter.unusedSimpArgs false
set_option linter.unusedVariables false
attribute [local go_sem] Oper.semAt_some
set_option maxRecDepth 100000 in
set_option maxHeartbeats 2000000 in
theorem rsh_ror_core (x a m k : Nat) (R X : Nat → Nat) (T L Cv : Nat → Bool) (wd : Int) (c z s o p Z S P SA : Bool) (hk0 : 0 < k) (hk64 : k < 64) (hR0 : R 0 = a)
    (hcount : ∀ W, Calls Tryd.prog 44 #[.int .i64 wd, .int .u8 (m : Int)] W fun e w' => e = .returned (.int .i64 (k : Int)) ∧ W = w')
    (hcut : ∀ W, Calls Tryd.prog 29 #[.int .u64 (x : Int), .int .i64 wd] W fun e w' => e = .returned (.int .u64 (a : Int)) ∧ W = w')
    (hsg : ∀ j, ∀ W, Calls Tryd.prog 39 #[.int .u64 (R j : Int), .int .i64 wd] W fun e w' => e = .returned (.bool (T j)) ∧ W = w')
    (hlow : ∀ j, (bits .and .u64 (R j : Int) 1 == 1) = L j)
    (hst : ∀ j, ∀ W, Calls Tryd.prog 45 #[.int .u64 (R j : Int), .int .i64 (-1), .int .i64 wd] W fun e w' => e = .returned (.int .u64 (R (j + 1) : Int)) ∧ W = w')
    (hsa : ∀ W, Calls Tryd.prog 39 #[.int .u64 (IntKind.u64.wrap ((R k : Int) * 2)), .int .i64 wd] W fun e w' => e = .returned (.bool SA) ∧ W = w') (w : World) :
    Calls Tryd.prog 21 #[.int .u8 20, .int .i64 wd, .int .u64 x, .int .u8 (m : Int), fl c z s o p] w fun e w' => e = .returned (.tuple #[.int .u64 (R k : Nat), fl (T k) z s (T k != SA) p]) ∧ Below w.heap.size w w' := by
  have HCOUNT := Lib.hid hcount
  have HCUT := Lib.hid hcut
  have HSG := Lib.hid hsg
  have HLOW := Lib.hid hlow
  have HST := Lib.hid hst
  have HSA := Lib.hid hsa
  have HR0 := Lib.hid hR0
  have HK0 := Lib.hid hk0
  have ek : ((k : Int) == 0) = false := by simp; omega
  clear hcount hcut hsg hlow hst hsa hR0 hk0
  go_enter Tryd.func21, Tryd.ntmps21
  go_wp2_with (first | (go_at_call 44; (with_reducible refine (HCOUNT.out _).mono ?_); rintro e w1 ⟨rfl, rfl⟩) | (go_at_call 29; (with_reducible refine (HCUT.out _).mono ?_); rintro e w1 ⟨rfl, rfl⟩))
  go_loopw [13, 15] (fun r i W => ∃ j : Nat, j ≤ k ∧ i = .int .i64 j ∧ r = .int .u64 (R j : Int) ∧ F5 W (w.heap.size + 1 + 1) c z s o p ∧ F5 W (w.heap.size + 1) false false false false false ∧ Below w.heap.size w W) (fun _ i _ => k - (intOf i).toNat)
  case atStart =>
    refine ⟨0, by omega, rfl, by rw [HR0.out], ?_, ?_, (((Below.refl _ _).alloc (Nat.le_refl _) _).alloc (by simp) _).alloc (by simp; omega) _⟩
    · have := F5.new ((w.alloc (flw c z s o p)).alloc fl0) c z s o p
      rw [World.size_alloc, World.size_alloc] at this
      exact this
    · have := (F5.new (w.alloc (flw c z s o p)) false false false false false).alloc (flw c z s o p)
      rw [World.size_alloc] at this
      exact this
  case round =>
    obtain ⟨j, hj, rfl, rfl, hF, hD, hB⟩ := hrel
    by_cases hlt : j < k
    · have e1 := HLOW.out j
      have HF := Lib.hid hF
      have HD := Lib.hid hD
      have HB := Lib.hid hB
      obtain ⟨c0, _⟩ := hF.c
      obtain ⟨d0, _⟩ := hF.f
      clear hF hD hB
      go_wp2_with (first | (go_at_call 39; (with_reducible refine (HSG.out _ _).mono ?_); rintro e w3 ⟨rfl, rfl⟩) | (go_at_call 45; (with_reducible refine (HST.out _ _).mono ?_); rintro e w4 ⟨rfl, rfl⟩))
      exact ⟨⟨j + 1, by omega, by simp, rfl, HF.out, HD.out, HB.out⟩, by simp [intOf]; omega⟩
    · obtain rfl : j = k := by omega
      have e0 := HLOW.out j
      have HF := Lib.hid hF
      have HD := Lib.hid hD
      have HB := Lib.hid hB
      obtain ⟨c0, c1, c2, c3, c4⟩ := hF.c
      obtain ⟨d0, d1, d2, d3, d4⟩ := hF.f
      clear hF hD hB
      go_wp2_with (go_at_call 39; (with_reducible refine (HSG.out _ _).mono ?_); rintro e w3 ⟨rfl, rfl⟩)
      clear c0 c1 c2 c3 c4 d0 d1 d2 d3 d4
      have hR : Hid (Rt w (w.heap.size + 1 + 1) (T j) z s o p (w.heap.size + 1) (wr.setCell ⟨w.heap.size + 1 + 1, 0, none⟩ (.bool (T j)))) := Lib.hid ⟨HF.out.set0, ⟨_, _, _, _, _, HD.out.far (by omega)⟩, HB.out.setCell (p := ⟨w.heap.size + 1 + 1, 0, none⟩) (by simp; omega) _⟩
      clear HF HD HB
      generalize World.setCell _ _ _ = W2 at hR ⊢
      refine wp_region_noPanic ?_
      refine wp_region_held_drew (S := fun W => ∃ q, Rt w (w.heap.size + 1 + 1) (T j) z s q p (w.heap.size + 1) W) (by kernel_rfl) ?_ (fun hHeld => ?_)
      · exact ⟨_, hR.out.drew⟩
      generalize World.drew _ = W4 at hHeld ⊢
      refine wpAnyH_take (i := 0) (v := ?_) rfl (by kernel_rfl) (by kernel_rfl) (by kernel_rfl) (fun _ _ _ h => h) (Or.inl ⟨by kernel_rfl, ?_⟩) (by assumption) ?_
      rotate_left
      · intro w hSw
        go_simp
        try with_reducible rfl
      simp only [Act.put, List.setIfInBounds_toArray, List.set_cons_zero, List.set_cons_succ, List.getElem_toArray, List.getElem_cons_succ, List.getElem_cons_zero]
      refine wpAnyH_take (i := 1) (v := ?_) rfl (by kernel_rfl) (by kernel_rfl) (by kernel_rfl) (fun _ _ _ h => h) (Or.inl ⟨by kernel_rfl, ?_⟩) (by assumption) ?_
      rotate_left
      · intro w hSw
        obtain ⟨qq, hSq⟩ := hSw
        obtain ⟨g0, g1, g2, g3, g4⟩ := hSq.1.c
        go_simp
        try with_reducible rfl
      simp only [Act.put, List.setIfInBounds_toArray, List.set_cons_zero, List.set_cons_succ, List.getElem_toArray, List.getElem_cons_succ, List.getElem_cons_zero]
      refine wpAnyH_take (i := 2) (v := ?_) rfl (by kernel_rfl) (by kernel_rfl) (by kernel_rfl) (fun _ _ _ h => h) (Or.inl ⟨by kernel_rfl, ?_⟩) (by assumption) ?_
      rotate_left
      · intro w hSw
        go_simp
        try with_reducible rfl
      simp only [Act.put, List.setIfInBounds_toArray, List.set_cons_zero, List.set_cons_succ, List.getElem_toArray, List.getElem_cons_succ, List.getElem_cons_zero]
      refine wpAnyH_take (i := 3) (v := ?_) rfl (by kernel_rfl) (by kernel_rfl) (by kernel_rfl) (fun _ _ _ h => h) (Or.inl ⟨by kernel_rfl, ?_⟩) (by assumption) ?_
      rotate_left
      · intro w hSw
        go_simp
        try with_reducible rfl
      simp only [Act.put, List.setIfInBounds_toArray, List.set_cons_zero, List.set_cons_succ, List.getElem_toArray, List.getElem_cons_succ, List.getElem_cons_zero]
      refine wpAnyH_take (i := 4) (v := ?_) rfl (by kernel_rfl) (by kernel_rfl) (by kernel_rfl) (fun _ _ _ h => h) (Or.inl ⟨by kernel_rfl, ?_⟩) (by assumption) ?_
      rotate_left
      · intro w hSw
        go_simp
        try with_reducible rfl
      simp only [Act.put, List.setIfInBounds_toArray, List.set_cons_zero, List.set_cons_succ, List.getElem_toArray, List.getElem_cons_succ, List.getElem_cons_zero]
      refine wpAnyH_ready (rs := [5]) (by kernel_rfl) (by simp) ?_
      refine AllReadyH.cons rfl (fun K hK => ?_) AllReadyH.nil
      rw [if_pos (by kernel_rfl)]; go_simp; go_at_call 39; (with_reducible refine (HSA.out _).mono ?_); rintro e w1 ⟨rfl, rfl⟩
      refine hK.out _ _ hHeld (fun hHeld2 => ?_)
      clear hK K hHeld
      have hHeld := hHeld2
      clear hHeld2
      try simp only [Act.put, List.setIfInBounds_toArray, List.set_cons_zero, List.set_cons_succ, List.getElem_toArray, List.getElem_cons_succ, List.getElem_cons_zero]
      refine wpAnyH_take (i := 6) (v := ?_) rfl (by kernel_rfl) (by kernel_rfl) (by kernel_rfl) (fun _ _ _ h => h) (Or.inl ⟨by kernel_rfl, ?_⟩) (by assumption) ?_
      rotate_left
      · intro w hSw
        go_simp
        try with_reducible rfl
      simp only [Act.put, List.setIfInBounds_toArray, List.set_cons_zero, List.set_cons_succ, List.getElem_toArray, List.getElem_cons_succ, List.getElem_cons_zero]
      refine wpAnyH_take (i := 7) (v := ?_) rfl (by kernel_rfl) (by kernel_rfl) (by kernel_rfl) (fun _ _ _ h => h) (Or.inl ⟨by kernel_rfl, ?_⟩) (by assumption) ?_
      rotate_left
      · intro w hSw
        go_simp
        try with_reducible rfl
      simp only [Act.put, List.setIfInBounds_toArray, List.set_cons_zero, List.set_cons_succ, List.getElem_toArray, List.getElem_cons_succ, List.getElem_cons_zero]
      refine wpAnyH_ready (rs := [8]) (by kernel_rfl) (by simp) ?_
      refine AllReadyH.cons rfl (fun K hK => ?_) AllReadyH.nil
      obtain ⟨qq, hq⟩ := hHeld
      obtain ⟨g0, g1, g2, g3, g4⟩ := hq.1.c
      obtain ⟨f0, f1, f2, f3, f4⟩ := hq.1.f
      go_simp
      have h9 : Hid (Rt w (w.heap.size + 1 + 1) (T j) z s (T j != SA) p (w.heap.size + 1) (W4.setCell ⟨w.heap.size + 1 + 1, 3, none⟩ (.bool (!(T j == SA))))) := Lib.hid ⟨hq.1.set3, by obtain ⟨y0, y1, y2, y3, y4, hy⟩ := hq.2.1; exact ⟨_, _, _, _, _, hy.far (by omega)⟩, hq.2.2.setCell (p := ⟨w.heap.size + 1 + 1, 3, none⟩) (by simp; omega) _⟩
      refine hK.out _ _ ⟨_, h9.out⟩ (fun hHeld2 => ?_)
      clear hK K hq hHeld2 g0 g1 g2 g3 g4 f0 f1 f2 f3 f4
      try simp only [Act.put, List.setIfInBounds_toArray, List.set_cons_zero, List.set_cons_succ, List.getElem_toArray, List.getElem_cons_succ, List.getElem_cons_zero]
      refine wpAnyH_done (by kernel_rfl) ?_ _
      refine NoPanic.normal ?_
      generalize World.setCell _ _ _ = W3 at h9 ⊢
      have hR := h9
      clear h9
      go_wp2
      refine wp_region_noPanic ?_
      refine wp_region_held_drew (S := fun W => Rt w (w.heap.size + 1 + 1) (T j) z s (T j != SA) p (w.heap.size + 1) W) (by kernel_rfl) ?_ (fun hHeld => ?_)
      · exact hR.out.drew
      generalize World.drew _ = W4 at hHeld ⊢
      refine wpAnyH_take (i := 0) (v := ?_) rfl (by kernel_rfl) (by kernel_rfl) (by kernel_rfl) (fun _ _ _ h => h) (Or.inl ⟨by kernel_rfl, ?_⟩) (by assumption) ?_
      rotate_left
      · intro w hSw
        go_simp
        try with_reducible rfl
      simp only [Act.put, List.setIfInBounds_toArray, List.set_cons_zero, List.set_cons_succ, List.getElem_toArray, List.getElem_cons_succ, List.getElem_cons_zero]
      refine wpAnyH_take (i := 1) (v := ?_) rfl (by kernel_rfl) (by kernel_rfl) (by kernel_rfl) (fun _ _ _ h => h) (Or.inl ⟨by kernel_rfl, ?_⟩) (by assumption) ?_
      rotate_left
      · intro w hSw
        obtain ⟨g0, g1, g2, g3, g4⟩ := hSw.1.c
        go_simp
        try with_reducible rfl
      simp only [Act.put, List.setIfInBounds_toArray, List.set_cons_zero, List.set_cons_succ, List.getElem_toArray, List.getElem_cons_succ, List.getElem_cons_zero]
      refine wpAnyH_ready (rs := [2]) (by kernel_rfl) (by simp) ?_
      refine AllReadyH.cons rfl (fun K hK => ?_) AllReadyH.nil
      go_simp
      refine hK.out _ _ hHeld (fun hHeld2 => ?_)
      clear hK K hHeld
      have hHeld := hHeld2
      clear hHeld2
      try simp only [Act.put, List.setIfInBounds_toArray, List.set_cons_zero, List.set_cons_succ, List.getElem_toArray, List.getElem_cons_succ, List.getElem_cons_zero]
      refine wpAnyH_ready (rs := [3]) (by kernel_rfl) (by simp) ?_
      refine AllReadyH.cons rfl (fun K hK => ?_) AllReadyH.nil
      obtain ⟨y0, y1, y2, y3, y4, hy⟩ := hHeld.2.1
      obtain ⟨g0, g1, g2, g3, g4⟩ := hy.c
      obtain ⟨f0, f1, f2, f3, f4⟩ := hy.f
      go_simp
      have h9 := Lib.hid (hHeld.put (by omega))
      refine hK.out _ _ h9.out.1 (fun hHeld2 => ?_)
      clear hK K hHeld hHeld2 g0 g1 g2 g3 g4 f0 f1 f2 f3 f4 hy
      try simp only [Act.put, List.setIfInBounds_toArray, List.set_cons_zero, List.set_cons_succ, List.getElem_toArray, List.getElem_cons_succ, List.getElem_cons_zero]
      refine wpAnyH_done (by kernel_rfl) ?_ _
      refine NoPanic.normal ?_
      generalize World.setCell (World.setCell (World.setCell (World.setCell (World.setCell _ _ _) _ _) _ _) _ _) _ _ = W9 at h9 ⊢
      obtain ⟨⟨_, _, hbl⟩, hF⟩ := h9.out
      obtain ⟨g0, g1, g2, g3, g4⟩ := hF.c
      clear h9
      go_wp2
      exact bodyPost_ret (v := .tuple #[.int .u64 (R j : Nat), fl (T j) z s (T j != SA) p]) (by simp [results, Tryd.results21, go_sem, *]) rfl ⟨rfl, hbl⟩
end Go.Proofs.YtmfoeolllobidaaDoor
