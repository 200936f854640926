/- The walk of VectorProducts. -/
import Derived.Test.YteonemnpbpiifaaM
namespace Go.Proofs.Yteonemnpbpiifaa
open Go.RowKit Go.Shelf
set_option linter.unusedVariables false
set_option linter.unusedSimpArgs false
attribute [local go_sem] Oper.semAt_some
theorem share {G HH : Nat → World → Prop} {P : Prop} (k : (∀ a b, HH a b → G a b) → P) (r : ∀ a b, HH a b → G a b) : P := k r
def PV (w : World) (x y z s : Array Value) (bs : Nat) (W : World) : Prop := R16 W w.heap.size x ∧ R16 W (w.heap.size + 1) y ∧ R16 W (w.heap.size + 1 + 1) z ∧ R16 W bs s ∧ Below w.heap.size w W
theorem PV.below {w W W' : World} {x y z s : Array Value} {bs : Nat} (h : PV w x y z s bs W) (hb : Below W.heap.size W W') : PV w x y z s bs W' := ⟨h.1.keep hb, h.2.1.keep hb, h.2.2.1.keep hb, h.2.2.2.1.keep hb, h.2.2.2.2.trans (hb.mono h.2.2.2.2.size)⟩
theorem PV.drew {w W : World} {x y z s : Array Value} {bs : Nat} (h : PV w x y z s bs W) : PV w x y z s bs W.drew := ⟨h.1.drew, h.2.1.drew, h.2.2.1.drew, h.2.2.2.1.drew, h.2.2.2.2.drew⟩
theorem VS.alloc9 {w W : World} {x y z : Array Value} (h : VS w x y z W) : VS w x y z (W.alloc (.cells #[.int .u8 0, .int .u8 0, .int .u8 0, .int .u8 0, .int .u8 0, .int .u8 0, .int .u8 0, .int .u8 0, .int .u8 0, .int .u8 0, .int .u8 0, .int .u8 0, .int .u8 0, .int .u8 0, .int .u8 0, .int .u8 0] 22)) ∧ R16 (W.alloc (.cells #[.int .u8 0, .int .u8 0, .int .u8 0, .int .u8 0, .int .u8 0, .int .u8 0, .int .u8 0, .int .u8 0, .int .u8 0, .int .u8 0, .int .u8 0, .int .u8 0, .int .u8 0, .int .u8 0, .int .u8 0, .int .u8 0] 22)) W.heap.size z16 ∧ w.heap.size + 1 + 1 < W.heap.size :=
  ⟨h.below ((Below.refl _ _).alloc (Nat.le_refl _) _), R16.newz W, h.2.2.1.lt⟩
theorem PV.of {w W : World} {x y z s us : Array Value} {bs : Nat} (h : VS w x y z W) (h9 : R16 W bs us) (hn : w.heap.size + 1 + 1 < bs) (hs : s.size = 16) (hs1 : s.all (·.oneCell') = true) : PV w x y z s bs (W.setRow bs s) :=
  ⟨h.1.far (by omega), h.2.1.far (by omega), h.2.2.1.far (by omega), h9.row hs hs1, below_row h.2.2.2 (by omega)⟩
set_option maxRecDepth 100000 in
set_option maxHeartbeats 4000000 in
theorem prods_00 (i j : Int) (x y z px py s xy : Array Value) (hx : x.size = 16) (hx1 : x.all (·.oneCell') = true) (hy : y.size = 16) (hy1 : y.all (·.oneCell') = true) (hz : z.size = 16) (hz1 : z.all (·.oneCell') = true) (hs : s.size = 16) (hs1 : s.all (·.oneCell') = true) (x0 x1 z0 z1 lo hi : Int)
    (h1 : ∀ W, Calls Try.prog 11 #[.int .u8 39, .agg x, .agg z, .int .u8 i] W fun e W' => e = .returned (.agg px) ∧ Below W.heap.size W W')
    (h2 : ∀ W, Calls Try.prog 11 #[.int .u8 39, .agg y, .agg z, .int .u8 i] W fun e W' => e = .returned (.agg py) ∧ Below W.heap.size W W')
    (h3 : ∀ W, Calls Try.prog 11 #[.int .u8 36, .agg px, .agg py, .int .u8 0] W fun e W' => e = .returned (.agg s) ∧ Below W.heap.size W W')
    (h4 : ∀ W, Calls Try.prog 11 #[.int .u8 36, .agg x, .agg y, .int .u8 0] W fun e W' => e = .returned (.agg xy) ∧ Below W.heap.size W W')
    (h5 : ∀ W, Calls Try.prog 11 #[.int .u8 39, .agg xy, .agg z, .int .u8 i] W fun e W' => e = .returned (.agg s) ∧ Below W.heap.size W W')
    (h6 : ∀ W, Calls Try.prog 9 #[.agg x] W fun e W' => e = .returned (.tuple #[.int .u64 x0, .int .u64 x1]) ∧ Below W.heap.size W W')
    (h7 : ∀ W, Calls Try.prog 9 #[.agg z] W fun e W' => e = .returned (.tuple #[.int .u64 z0, .int .u64 z1]) ∧ Below W.heap.size W W')
    (h8 : ∀ W, Calls Try.prog 17 #[.int .u64 x0, .int .u64 z0] W fun e W' => e = .returned (.tuple #[.int .u64 lo, .int .u64 hi]) ∧ Below W.heap.size W W')
    (h9 : ∀ W, Calls Try.prog 9 #[.agg px] W fun e W' => e = .returned (.tuple #[.int .u64 lo, .int .u64 hi]) ∧ Below W.heap.size W W')
    (h10 : ∀ W, Calls Try.prog 11 #[.int .u8 39, .agg z, .agg x, .int .u8 j] W fun e W' => e = .returned (.agg px) ∧ Below W.heap.size W W')
    (h11 : ∀ W, Calls Try.prog 8 #[] W fun e W' => e = .returned (.bool true) ∧ Below W.heap.size W W')
    (ep : ∀ w, (Op.equalIn 10000 22 (.agg px) (.agg px)).run Try.prog w = .ok true w) (es : ∀ w, (Op.equalIn 10000 22 (.agg s) (.agg s)).run Try.prog w = .ok true w)
    (ej : bits .or .u8 (bits .and .u8 (i / 16) 1) (bits .and .u8 i 1 * 16 % 256) = j)
    (g1 : (bits .and .u8 i 1 == 1) = false) (g2 : (bits .and .u8 (i / 16) 1 == 1) = false) (w : World) :
    Calls Try.prog 5 #[.agg x, .agg y, .agg z, .int .u8 i] w fun e w' => e = .returned (.bool true) ∧ Below w.heap.size w w' := by
  have H1 := Lib.hid h1
  have H2 := Lib.hid h2
  have H3 := Lib.hid h3
  have H4 := Lib.hid h4
  have H5 := Lib.hid h5
  have H6 := Lib.hid h6
  have H7 := Lib.hid h7
  have H8 := Lib.hid h8
  have H9 := Lib.hid h9
  have H10 := Lib.hid h10
  have H11 := Lib.hid h11
  have EP := Lib.hid ep
  have ES := Lib.hid es
  have EJ := Lib.hid ej
  have G1 := Lib.hid g1
  have G2 := Lib.hid g2
  have hq1 := (((R16.new w x hx hx1).alloc (.cells y 22)).alloc (.cells z 22))
  have hq2 := (R16.new (w.alloc (.cells x 22)) y hy hy1).alloc (.cells z 22)
  have hq3 := R16.new ((w.alloc (.cells x 22)).alloc (.cells y 22)) z hz hz1
  have hB : Below w.heap.size w (((w.alloc (.cells x 22)).alloc (.cells y 22)).alloc (.cells z 22)) := (((Below.refl _ w).alloc (Nat.le_refl _) _).alloc (by simp) _).alloc (by simp; omega) _
  simp only [World.size_alloc] at hq2 hq3
  have HS : Hid (VS w x y z (((w.alloc (.cells x 22)).alloc (.cells y 22)).alloc (.cells z 22))) := Lib.hid ⟨hq1, hq2, hq3, hB⟩
  clear h1 h2 h3 h4 h5 h6 h7 h8 h9 h10 h11 ep es ej g1 g2 hq1 hq2 hq3 hB
  go_enter Try.func5, Try.ntmps5
  go_upto_region 1 with fail
  generalize World.alloc (World.alloc (World.alloc _ _) _) _ = W0 at *
  go_wp2_with fail
  refine' share (G := _) (HH := fun bs W => PV w x y z s bs W) (fun REST => _) _
  rotate_left
  · skip
    refine wp_region_noPanic ?_
    refine wp_region_held_drew (S := fun W => VS w x y z W) (by kernel_rfl) ?_ (fun hHeld => ?_)
    · exact HS.out.drew
    generalize World.drew _ = v at hHeld ⊢
    refine wpAnyH_take (i := 0) (v := ?_) rfl (by kernel_rfl) (by kernel_rfl) (by kernel_rfl) (fun _ _ _ h => h) (Or.inl ⟨by kernel_rfl, ?_⟩) (by assumption) ?_
    rotate_left
    · intro w hSw
      refine exec_load22 (x := .tmp 4) ?_ ?_ hSw.1
      · rfl
      · rfl
      try with_reducible rfl
    simp only [Act.put, List.setIfInBounds_toArray, List.set_cons_zero, List.set_cons_succ, List.getElem_toArray, List.getElem_cons_succ, List.getElem_cons_zero]
    refine wpAnyH_take (i := 1) (v := ?_) rfl (by kernel_rfl) (by kernel_rfl) (by kernel_rfl) (fun _ _ _ h => h) (Or.inl ⟨by kernel_rfl, ?_⟩) (by assumption) ?_
    rotate_left
    · intro w hSw
      refine exec_load22 (x := .tmp 6) ?_ ?_ hSw.2.2.1
      · rfl
      · rfl
      try with_reducible rfl
    simp only [Act.put, List.setIfInBounds_toArray, List.set_cons_zero, List.set_cons_succ, List.getElem_toArray, List.getElem_cons_succ, List.getElem_cons_zero]
    refine wpAnyH_take (i := 2) (v := ?_) rfl (by kernel_rfl) (by kernel_rfl) (by kernel_rfl) (fun _ _ _ h => h) (Or.inl ⟨by kernel_rfl, ?_⟩) (by assumption) ?_
    rotate_left
    · intro w hSw
      go_simp
      try with_reducible rfl
    simp only [Act.put, List.setIfInBounds_toArray, List.set_cons_zero, List.set_cons_succ, List.getElem_toArray, List.getElem_cons_succ, List.getElem_cons_zero]
    refine wpAnyH_take (i := 4) (v := ?_) rfl (by kernel_rfl) (by kernel_rfl) (by kernel_rfl) (fun _ _ _ h => h) (Or.inl ⟨by kernel_rfl, ?_⟩) (by assumption) ?_
    rotate_left
    · intro w hSw
      refine exec_load22 (x := .tmp 5) ?_ ?_ hSw.2.1
      · rfl
      · rfl
      try with_reducible rfl
    simp only [Act.put, List.setIfInBounds_toArray, List.set_cons_zero, List.set_cons_succ, List.getElem_toArray, List.getElem_cons_succ, List.getElem_cons_zero]
    refine wpAnyH_take (i := 5) (v := ?_) rfl (by kernel_rfl) (by kernel_rfl) (by kernel_rfl) (fun _ _ _ h => h) (Or.inl ⟨by kernel_rfl, ?_⟩) (by assumption) ?_
    rotate_left
    · intro w hSw
      refine exec_load22 (x := .tmp 6) ?_ ?_ hSw.2.2.1
      · rfl
      · rfl
      try with_reducible rfl
    simp only [Act.put, List.setIfInBounds_toArray, List.set_cons_zero, List.set_cons_succ, List.getElem_toArray, List.getElem_cons_succ, List.getElem_cons_zero]
    refine wpAnyH_take (i := 6) (v := ?_) rfl (by kernel_rfl) (by kernel_rfl) (by kernel_rfl) (fun _ _ _ h => h) (Or.inl ⟨by kernel_rfl, ?_⟩) (by assumption) ?_
    rotate_left
    · intro w hSw
      go_simp
      try with_reducible rfl
    simp only [Act.put, List.setIfInBounds_toArray, List.set_cons_zero, List.set_cons_succ, List.getElem_toArray, List.getElem_cons_succ, List.getElem_cons_zero]
    refine wpAnyH_ready (rs := [3, 9]) (by kernel_rfl) (by simp) ?_
    refine AllReadyH.cons rfl (fun K hK => ?_) (AllReadyH.cons rfl (fun K hK => ?_) AllReadyH.nil)
    · rw [if_pos (by kernel_rfl)]; go_simp; go_at_call 11; (with_reducible refine (H1.out _).mono ?_); rintro e vc ⟨rfl, hb1⟩
      refine hK.out _ _ (VS.below hHeld hb1) (fun hHeld2 => ?_)
      clear hK K hHeld hb1
      have hHeld := hHeld2
      clear hHeld2
      try simp only [Act.put, List.setIfInBounds_toArray, List.set_cons_zero, List.set_cons_succ, List.getElem_toArray, List.getElem_cons_succ, List.getElem_cons_zero]
      refine wpAnyH_ready (rs := [7, 9]) (by kernel_rfl) (by simp) ?_
      refine AllReadyH.cons rfl (fun K hK => ?_) (AllReadyH.cons rfl (fun K hK => ?_) AllReadyH.nil)
      · rw [if_pos (by kernel_rfl)]; go_simp; go_at_call 11; (with_reducible refine (H2.out _).mono ?_); rintro e vcc ⟨rfl, hb1⟩
        refine hK.out _ _ (VS.below hHeld hb1) (fun hHeld2 => ?_)
        clear hK K hHeld hb1
        have hHeld := hHeld2
        clear hHeld2
        try simp only [Act.put, List.setIfInBounds_toArray, List.set_cons_zero, List.set_cons_succ, List.getElem_toArray, List.getElem_cons_succ, List.getElem_cons_zero]
        refine wpAnyH_ready (rs := [8, 9]) (by kernel_rfl) (by simp) ?_
        refine AllReadyH.cons rfl (fun K hK => ?_) (AllReadyH.cons rfl (fun K hK => ?_) AllReadyH.nil)
        · rw [if_pos (by kernel_rfl)]; go_simp; go_at_call 11; (with_reducible refine (H3.out _).mono ?_); rintro e vccc ⟨rfl, hb1⟩
          refine hK.out _ _ (VS.below hHeld hb1) (fun hHeld2 => ?_)
          clear hK K hHeld hb1
          have hHeld := hHeld2
          clear hHeld2
          try simp only [Act.put, List.setIfInBounds_toArray, List.set_cons_zero, List.set_cons_succ, List.getElem_toArray, List.getElem_cons_succ, List.getElem_cons_zero]
          refine wpAnyH_ready (rs := [9]) (by kernel_rfl) (by simp) ?_
          refine AllReadyH.cons rfl (fun K hK => ?_) AllReadyH.nil
          rw [if_pos (by kernel_rfl)]
          obtain ⟨a1, hR9, hne⟩ := hHeld.alloc9
          go_simp
          refine hK.out _ _ a1 (fun hHeld2 => ?_)
          clear hK K hHeld a1
          have hHeld := hHeld2
          clear hHeld2
          generalize World.alloc _ _ = vccca at *
          generalize vccc.heap.size = bs at *
          try simp only [Act.put, List.setIfInBounds_toArray, List.set_cons_zero, List.set_cons_succ, List.getElem_toArray, List.getElem_cons_succ, List.getElem_cons_zero]
          refine wpAnyH_ready (rs := [10]) (by kernel_rfl) (by simp) ?_
          refine AllReadyH.cons rfl (fun K hK => ?_) AllReadyH.nil
          rw [if_pos (by kernel_rfl)]
          have hP := Lib.hid (PV.of hHeld hR9 hne hs hs1)
          refine wp_store22 (x := .tmp 9) (y := .tmp 27) ?_ ?_ ?_ hR9 hs hs1 ?_
          · rfl
          · rfl
          · rfl
          refine hK.out _ _ ⟨hP.out.1, hP.out.2.1, hP.out.2.2.1, hP.out.2.2.2.2⟩ (fun hHeld2 => ?_)
          clear hK K hHeld hHeld2 hR9
          try simp only [Act.put, List.setIfInBounds_toArray, List.set_cons_zero, List.set_cons_succ, List.getElem_toArray, List.getElem_cons_succ, List.getElem_cons_zero]
          refine wpAnyH_done (by kernel_rfl) ?_ _
          refine NoPanic.normal ?_
          generalize World.setRow _ _ _ = W9 at hP ⊢
          exact REST _ _ hP.out
        · rw [if_pos (by kernel_rfl)]
          obtain ⟨a1, hR9, hne⟩ := hHeld.alloc9
          go_simp
          refine hK.out _ _ a1 (fun hHeld2 => ?_)
          clear hK K hHeld a1
          have hHeld := hHeld2
          clear hHeld2
          generalize World.alloc _ _ = vcca at *
          generalize vcc.heap.size = bs at *
          try simp only [Act.put, List.setIfInBounds_toArray, List.set_cons_zero, List.set_cons_succ, List.getElem_toArray, List.getElem_cons_succ, List.getElem_cons_zero]
          refine wpAnyH_ready (rs := [8]) (by kernel_rfl) (by simp) ?_
          refine AllReadyH.cons rfl (fun K hK => ?_) AllReadyH.nil
          rw [if_pos (by kernel_rfl)]; go_simp; go_at_call 11; (with_reducible refine (H3.out _).mono ?_); rintro e vccac ⟨rfl, hb1⟩
          have hR9 := hR9.keep hb1
          refine hK.out _ _ (VS.below hHeld hb1) (fun hHeld2 => ?_)
          clear hK K hHeld hb1
          have hHeld := hHeld2
          clear hHeld2
          try simp only [Act.put, List.setIfInBounds_toArray, List.set_cons_zero, List.set_cons_succ, List.getElem_toArray, List.getElem_cons_succ, List.getElem_cons_zero]
          refine wpAnyH_ready (rs := [10]) (by kernel_rfl) (by simp) ?_
          refine AllReadyH.cons rfl (fun K hK => ?_) AllReadyH.nil
          rw [if_pos (by kernel_rfl)]
          have hP := Lib.hid (PV.of hHeld hR9 hne hs hs1)
          refine wp_store22 (x := .tmp 9) (y := .tmp 27) ?_ ?_ ?_ hR9 hs hs1 ?_
          · rfl
          · rfl
          · rfl
          refine hK.out _ _ ⟨hP.out.1, hP.out.2.1, hP.out.2.2.1, hP.out.2.2.2.2⟩ (fun hHeld2 => ?_)
          clear hK K hHeld hHeld2 hR9
          try simp only [Act.put, List.setIfInBounds_toArray, List.set_cons_zero, List.set_cons_succ, List.getElem_toArray, List.getElem_cons_succ, List.getElem_cons_zero]
          refine wpAnyH_done (by kernel_rfl) ?_ _
          refine NoPanic.normal ?_
          generalize World.setRow _ _ _ = W9 at hP ⊢
          exact REST _ _ hP.out
      · rw [if_pos (by kernel_rfl)]
        obtain ⟨a1, hR9, hne⟩ := hHeld.alloc9
        go_simp
        refine hK.out _ _ a1 (fun hHeld2 => ?_)
        clear hK K hHeld a1
        have hHeld := hHeld2
        clear hHeld2
        generalize World.alloc _ _ = vca at *
        generalize vc.heap.size = bs at *
        try simp only [Act.put, List.setIfInBounds_toArray, List.set_cons_zero, List.set_cons_succ, List.getElem_toArray, List.getElem_cons_succ, List.getElem_cons_zero]
        refine wpAnyH_ready (rs := [7]) (by kernel_rfl) (by simp) ?_
        refine AllReadyH.cons rfl (fun K hK => ?_) AllReadyH.nil
        rw [if_pos (by kernel_rfl)]; go_simp; go_at_call 11; (with_reducible refine (H2.out _).mono ?_); rintro e vcac ⟨rfl, hb1⟩
        have hR9 := hR9.keep hb1
        refine hK.out _ _ (VS.below hHeld hb1) (fun hHeld2 => ?_)
        clear hK K hHeld hb1
        have hHeld := hHeld2
        clear hHeld2
        try simp only [Act.put, List.setIfInBounds_toArray, List.set_cons_zero, List.set_cons_succ, List.getElem_toArray, List.getElem_cons_succ, List.getElem_cons_zero]
        refine wpAnyH_ready (rs := [8]) (by kernel_rfl) (by simp) ?_
        refine AllReadyH.cons rfl (fun K hK => ?_) AllReadyH.nil
        rw [if_pos (by kernel_rfl)]; go_simp; go_at_call 11; (with_reducible refine (H3.out _).mono ?_); rintro e vcacc ⟨rfl, hb1⟩
        have hR9 := hR9.keep hb1
        refine hK.out _ _ (VS.below hHeld hb1) (fun hHeld2 => ?_)
        clear hK K hHeld hb1
        have hHeld := hHeld2
        clear hHeld2
        try simp only [Act.put, List.setIfInBounds_toArray, List.set_cons_zero, List.set_cons_succ, List.getElem_toArray, List.getElem_cons_succ, List.getElem_cons_zero]
        refine wpAnyH_ready (rs := [10]) (by kernel_rfl) (by simp) ?_
        refine AllReadyH.cons rfl (fun K hK => ?_) AllReadyH.nil
        rw [if_pos (by kernel_rfl)]
        have hP := Lib.hid (PV.of hHeld hR9 hne hs hs1)
        refine wp_store22 (x := .tmp 9) (y := .tmp 27) ?_ ?_ ?_ hR9 hs hs1 ?_
        · rfl
        · rfl
        · rfl
        refine hK.out _ _ ⟨hP.out.1, hP.out.2.1, hP.out.2.2.1, hP.out.2.2.2.2⟩ (fun hHeld2 => ?_)
        clear hK K hHeld hHeld2 hR9
        try simp only [Act.put, List.setIfInBounds_toArray, List.set_cons_zero, List.set_cons_succ, List.getElem_toArray, List.getElem_cons_succ, List.getElem_cons_zero]
        refine wpAnyH_done (by kernel_rfl) ?_ _
        refine NoPanic.normal ?_
        generalize World.setRow _ _ _ = W9 at hP ⊢
        exact REST _ _ hP.out
    · rw [if_pos (by kernel_rfl)]
      obtain ⟨a1, hR9, hne⟩ := hHeld.alloc9
      go_simp
      refine hK.out _ _ a1 (fun hHeld2 => ?_)
      clear hK K hHeld a1
      have hHeld := hHeld2
      clear hHeld2
      generalize World.alloc _ _ = va at *
      generalize v.heap.size = bs at *
      try simp only [Act.put, List.setIfInBounds_toArray, List.set_cons_zero, List.set_cons_succ, List.getElem_toArray, List.getElem_cons_succ, List.getElem_cons_zero]
      refine wpAnyH_ready (rs := [3]) (by kernel_rfl) (by simp) ?_
      refine AllReadyH.cons rfl (fun K hK => ?_) AllReadyH.nil
      rw [if_pos (by kernel_rfl)]; go_simp; go_at_call 11; (with_reducible refine (H1.out _).mono ?_); rintro e vac ⟨rfl, hb1⟩
      have hR9 := hR9.keep hb1
      refine hK.out _ _ (VS.below hHeld hb1) (fun hHeld2 => ?_)
      clear hK K hHeld hb1
      have hHeld := hHeld2
      clear hHeld2
      try simp only [Act.put, List.setIfInBounds_toArray, List.set_cons_zero, List.set_cons_succ, List.getElem_toArray, List.getElem_cons_succ, List.getElem_cons_zero]
      refine wpAnyH_ready (rs := [7]) (by kernel_rfl) (by simp) ?_
      refine AllReadyH.cons rfl (fun K hK => ?_) AllReadyH.nil
      rw [if_pos (by kernel_rfl)]; go_simp; go_at_call 11; (with_reducible refine (H2.out _).mono ?_); rintro e vacc ⟨rfl, hb1⟩
      have hR9 := hR9.keep hb1
      refine hK.out _ _ (VS.below hHeld hb1) (fun hHeld2 => ?_)
      clear hK K hHeld hb1
      have hHeld := hHeld2
      clear hHeld2
      try simp only [Act.put, List.setIfInBounds_toArray, List.set_cons_zero, List.set_cons_succ, List.getElem_toArray, List.getElem_cons_succ, List.getElem_cons_zero]
      refine wpAnyH_ready (rs := [8]) (by kernel_rfl) (by simp) ?_
      refine AllReadyH.cons rfl (fun K hK => ?_) AllReadyH.nil
      rw [if_pos (by kernel_rfl)]; go_simp; go_at_call 11; (with_reducible refine (H3.out _).mono ?_); rintro e vaccc ⟨rfl, hb1⟩
      have hR9 := hR9.keep hb1
      refine hK.out _ _ (VS.below hHeld hb1) (fun hHeld2 => ?_)
      clear hK K hHeld hb1
      have hHeld := hHeld2
      clear hHeld2
      try simp only [Act.put, List.setIfInBounds_toArray, List.set_cons_zero, List.set_cons_succ, List.getElem_toArray, List.getElem_cons_succ, List.getElem_cons_zero]
      refine wpAnyH_ready (rs := [10]) (by kernel_rfl) (by simp) ?_
      refine AllReadyH.cons rfl (fun K hK => ?_) AllReadyH.nil
      rw [if_pos (by kernel_rfl)]
      have hP := Lib.hid (PV.of hHeld hR9 hne hs hs1)
      refine wp_store22 (x := .tmp 9) (y := .tmp 27) ?_ ?_ ?_ hR9 hs hs1 ?_
      · rfl
      · rfl
      · rfl
      refine hK.out _ _ ⟨hP.out.1, hP.out.2.1, hP.out.2.2.1, hP.out.2.2.2.2⟩ (fun hHeld2 => ?_)
      clear hK K hHeld hHeld2 hR9
      try simp only [Act.put, List.setIfInBounds_toArray, List.set_cons_zero, List.set_cons_succ, List.getElem_toArray, List.getElem_cons_succ, List.getElem_cons_zero]
      refine wpAnyH_done (by kernel_rfl) ?_ _
      refine NoPanic.normal ?_
      generalize World.setRow _ _ _ = W9 at hP ⊢
      exact REST _ _ hP.out
  · rintro bs W9 hP
    have HS := Lib.hid hP
    clear hP
    go_wp2_with fail
    refine wp_region_noPanic ?_
    refine wp_region_held_drew (S := fun W => PV w x y z s bs W) (by kernel_rfl) ?_ (fun hHeld => ?_)
    · exact HS.out.drew
    generalize World.drew _ = W5 at hHeld ⊢
    clear HS
    refine wpAnyH_take (i := 0) (v := ?_) rfl (by kernel_rfl) (by kernel_rfl) (by kernel_rfl) (fun _ _ _ h => h) (Or.inl ⟨by kernel_rfl, ?_⟩) (by assumption) ?_
    rotate_left
    · intro w hSw
      refine exec_load22 (x := .tmp 4) ?_ ?_ hSw.1
      · rfl
      · rfl
      try with_reducible rfl
    simp only [Act.put, List.setIfInBounds_toArray, List.set_cons_zero, List.set_cons_succ, List.getElem_toArray, List.getElem_cons_succ, List.getElem_cons_zero]
    refine wpAnyH_take (i := 1) (v := ?_) rfl (by kernel_rfl) (by kernel_rfl) (by kernel_rfl) (fun _ _ _ h => h) (Or.inl ⟨by kernel_rfl, ?_⟩) (by assumption) ?_
    rotate_left
    · intro w hSw
      refine exec_load22 (x := .tmp 5) ?_ ?_ hSw.2.1
      · rfl
      · rfl
      try with_reducible rfl
    simp only [Act.put, List.setIfInBounds_toArray, List.set_cons_zero, List.set_cons_succ, List.getElem_toArray, List.getElem_cons_succ, List.getElem_cons_zero]
    refine wpAnyH_take (i := 3) (v := ?_) rfl (by kernel_rfl) (by kernel_rfl) (by kernel_rfl) (fun _ _ _ h => h) (Or.inl ⟨by kernel_rfl, ?_⟩) (by assumption) ?_
    rotate_left
    · intro w hSw
      refine exec_load22 (x := .tmp 6) ?_ ?_ hSw.2.2.1
      · rfl
      · rfl
      try with_reducible rfl
    simp only [Act.put, List.setIfInBounds_toArray, List.set_cons_zero, List.set_cons_succ, List.getElem_toArray, List.getElem_cons_succ, List.getElem_cons_zero]
    refine wpAnyH_take (i := 4) (v := ?_) rfl (by kernel_rfl) (by kernel_rfl) (by kernel_rfl) (fun _ _ _ h => h) (Or.inl ⟨by kernel_rfl, ?_⟩) (by assumption) ?_
    rotate_left
    · intro w hSw
      go_simp
      try with_reducible rfl
    simp only [Act.put, List.setIfInBounds_toArray, List.set_cons_zero, List.set_cons_succ, List.getElem_toArray, List.getElem_cons_succ, List.getElem_cons_zero]
    refine wpAnyH_take (i := 6) (v := ?_) rfl (by kernel_rfl) (by kernel_rfl) (by kernel_rfl) (fun _ _ _ h => h) (Or.inl ⟨by kernel_rfl, ?_⟩) (by assumption) ?_
    rotate_left
    · intro w hSw
      refine exec_load22 (x := .tmp 9) ?_ ?_ hSw.2.2.2.1
      · rfl
      · rfl
      try with_reducible rfl
    simp only [Act.put, List.setIfInBounds_toArray, List.set_cons_zero, List.set_cons_succ, List.getElem_toArray, List.getElem_cons_succ, List.getElem_cons_zero]
    refine wpAnyH_ready (rs := [2]) (by kernel_rfl) (by simp) ?_
    refine AllReadyH.cons rfl (fun K hK => ?_) AllReadyH.nil
    rw [if_pos (by kernel_rfl)]; go_simp; go_at_call 11; (with_reducible refine (H4.out _).mono ?_); rintro e w1 ⟨rfl, hb1⟩
    refine hK.out _ _ (PV.below hHeld hb1) (fun hHeld2 => ?_)
    clear hK K hHeld hb1
    have hHeld := hHeld2
    clear hHeld2
    try simp only [Act.put, List.setIfInBounds_toArray, List.set_cons_zero, List.set_cons_succ, List.getElem_toArray, List.getElem_cons_succ, List.getElem_cons_zero]
    refine wpAnyH_ready (rs := [5]) (by kernel_rfl) (by simp) ?_
    refine AllReadyH.cons rfl (fun K hK => ?_) AllReadyH.nil
    rw [if_pos (by kernel_rfl)]; go_simp; go_at_call 11; (with_reducible refine (H5.out _).mono ?_); rintro e w1 ⟨rfl, hb1⟩
    refine hK.out _ _ (PV.below hHeld hb1) (fun hHeld2 => ?_)
    clear hK K hHeld hb1
    have hHeld := hHeld2
    clear hHeld2
    try simp only [Act.put, List.setIfInBounds_toArray, List.set_cons_zero, List.set_cons_succ, List.getElem_toArray, List.getElem_cons_succ, List.getElem_cons_zero]
    refine wpAnyH_take (i := 7) (v := ?_) rfl (by kernel_rfl) (by kernel_rfl) (by kernel_rfl) (fun _ _ _ h => h) (Or.inl ⟨by kernel_rfl, ?_⟩) (by assumption) ?_
    rotate_left
    · intro w hSw
      have q := ES.out
      go_simp
      try with_reducible rfl
    simp only [Act.put, List.setIfInBounds_toArray, List.set_cons_zero, List.set_cons_succ, List.getElem_toArray, List.getElem_cons_succ, List.getElem_cons_zero]
    refine wpAnyH_done (by kernel_rfl) ?_ _
    refine NoPanic.normal ?_
    have HS0 := Lib.hid hHeld
    clear hHeld
    go_wp2_with (first | (refine wpList_load22 rfl rfl rfl HS0.out.1 ?_) | (refine wpList_load22 rfl rfl rfl HS0.out.2.2.1 ?_))
    rw [EJ.out]
    go_at_call 9
    with_reducible refine (H6.out _).mono ?_
    rintro e w1 ⟨rfl, hb1⟩
    have HS1 := Lib.hid (HS0.out.below hb1)
    clear HS0 hb1
    have g1 := G1.out
    go_wp2_with (first | (refine wpList_load22 rfl rfl rfl HS1.out.1 ?_) | (refine wpList_load22 rfl rfl rfl HS1.out.2.2.1 ?_))
    go_at_call 9
    with_reducible refine (H7.out _).mono ?_
    rintro e w2 ⟨rfl, hb1⟩
    have HS2 := Lib.hid (HS1.out.below hb1)
    clear HS1 hb1
    have g2 := G2.out
    go_wp2_with (first | (refine wpList_load22 rfl rfl rfl HS2.out.1 ?_) | (refine wpList_load22 rfl rfl rfl HS2.out.2.2.1 ?_))
    go_at_call 17
    with_reducible refine (H8.out _).mono ?_
    rintro e w3 ⟨rfl, hb1⟩
    have HS3 := Lib.hid (HS2.out.below hb1)
    clear HS2 hb1
    go_wp2_with (first | (refine wpList_load22 rfl rfl rfl HS3.out.1 ?_) | (refine wpList_load22 rfl rfl rfl HS3.out.2.2.1 ?_))
    go_at_call 11
    with_reducible refine (H1.out _).mono ?_
    rintro e w4 ⟨rfl, hb1⟩
    have HS4 := Lib.hid (HS3.out.below hb1)
    clear HS3 hb1
    go_wp2_with (first | (refine wpList_load22 rfl rfl rfl HS4.out.1 ?_) | (refine wpList_load22 rfl rfl rfl HS4.out.2.2.1 ?_))
    go_at_call 9
    with_reducible refine (H9.out _).mono ?_
    rintro e w5 ⟨rfl, hb1⟩
    have HS5 := Lib.hid (HS4.out.below hb1)
    clear HS4 hb1
    go_wp2_with fail
    refine wp_region_noPanic ?_
    refine wp_region_held_drew (S := fun W => PV w x y z s bs W) (by kernel_rfl) ?_ (fun hHeld => ?_)
    · exact HS5.out.drew
    generalize World.drew _ = W6 at hHeld ⊢
    clear HS5
    refine wpAnyH_take (i := 0) (v := ?_) rfl (by kernel_rfl) (by kernel_rfl) (by kernel_rfl) (fun _ _ _ h => h) (Or.inl ⟨by kernel_rfl, ?_⟩) (by assumption) ?_
    rotate_left
    · intro w hSw
      refine exec_load22 (x := .tmp 6) ?_ ?_ hSw.2.2.1
      · rfl
      · rfl
      try with_reducible rfl
    simp only [Act.put, List.setIfInBounds_toArray, List.set_cons_zero, List.set_cons_succ, List.getElem_toArray, List.getElem_cons_succ, List.getElem_cons_zero]
    refine wpAnyH_take (i := 1) (v := ?_) rfl (by kernel_rfl) (by kernel_rfl) (by kernel_rfl) (fun _ _ _ h => h) (Or.inl ⟨by kernel_rfl, ?_⟩) (by assumption) ?_
    rotate_left
    · intro w hSw
      refine exec_load22 (x := .tmp 4) ?_ ?_ hSw.1
      · rfl
      · rfl
      try with_reducible rfl
    simp only [Act.put, List.setIfInBounds_toArray, List.set_cons_zero, List.set_cons_succ, List.getElem_toArray, List.getElem_cons_succ, List.getElem_cons_zero]
    refine wpAnyH_take (i := 2) (v := ?_) rfl (by kernel_rfl) (by kernel_rfl) (by kernel_rfl) (fun _ _ _ h => h) (Or.inl ⟨by kernel_rfl, ?_⟩) (by assumption) ?_
    rotate_left
    · intro w hSw
      go_simp
      try with_reducible rfl
    simp only [Act.put, List.setIfInBounds_toArray, List.set_cons_zero, List.set_cons_succ, List.getElem_toArray, List.getElem_cons_succ, List.getElem_cons_zero]
    refine wpAnyH_take (i := 4) (v := ?_) rfl (by kernel_rfl) (by kernel_rfl) (by kernel_rfl) (fun _ _ _ h => h) (Or.inl ⟨by kernel_rfl, ?_⟩) (by assumption) ?_
    rotate_left
    · intro w hSw
      refine exec_load22 (x := .tmp 4) ?_ ?_ hSw.1
      · rfl
      · rfl
      try with_reducible rfl
    simp only [Act.put, List.setIfInBounds_toArray, List.set_cons_zero, List.set_cons_succ, List.getElem_toArray, List.getElem_cons_succ, List.getElem_cons_zero]
    refine wpAnyH_take (i := 5) (v := ?_) rfl (by kernel_rfl) (by kernel_rfl) (by kernel_rfl) (fun _ _ _ h => h) (Or.inl ⟨by kernel_rfl, ?_⟩) (by assumption) ?_
    rotate_left
    · intro w hSw
      refine exec_load22 (x := .tmp 6) ?_ ?_ hSw.2.2.1
      · rfl
      · rfl
      try with_reducible rfl
    simp only [Act.put, List.setIfInBounds_toArray, List.set_cons_zero, List.set_cons_succ, List.getElem_toArray, List.getElem_cons_succ, List.getElem_cons_zero]
    refine wpAnyH_take (i := 6) (v := ?_) rfl (by kernel_rfl) (by kernel_rfl) (by kernel_rfl) (fun _ _ _ h => h) (Or.inl ⟨by kernel_rfl, ?_⟩) (by assumption) ?_
    rotate_left
    · intro w hSw
      go_simp
      try with_reducible rfl
    simp only [Act.put, List.setIfInBounds_toArray, List.set_cons_zero, List.set_cons_succ, List.getElem_toArray, List.getElem_cons_succ, List.getElem_cons_zero]
    refine wpAnyH_ready (rs := [3]) (by kernel_rfl) (by simp) ?_
    refine AllReadyH.cons rfl (fun K hK => ?_) AllReadyH.nil
    rw [if_pos (by kernel_rfl)]; go_simp; go_at_call 11; (with_reducible refine (H10.out _).mono ?_); rintro e w1 ⟨rfl, hb1⟩
    refine hK.out _ _ (PV.below hHeld hb1) (fun hHeld2 => ?_)
    clear hK K hHeld hb1
    have hHeld := hHeld2
    clear hHeld2
    try simp only [Act.put, List.setIfInBounds_toArray, List.set_cons_zero, List.set_cons_succ, List.getElem_toArray, List.getElem_cons_succ, List.getElem_cons_zero]
    refine wpAnyH_ready (rs := [7]) (by kernel_rfl) (by simp) ?_
    refine AllReadyH.cons rfl (fun K hK => ?_) AllReadyH.nil
    rw [if_pos (by kernel_rfl)]; go_simp; go_at_call 11; (with_reducible refine (H1.out _).mono ?_); rintro e w1 ⟨rfl, hb1⟩
    refine hK.out _ _ (PV.below hHeld hb1) (fun hHeld2 => ?_)
    clear hK K hHeld hb1
    have hHeld := hHeld2
    clear hHeld2
    try simp only [Act.put, List.setIfInBounds_toArray, List.set_cons_zero, List.set_cons_succ, List.getElem_toArray, List.getElem_cons_succ, List.getElem_cons_zero]
    refine wpAnyH_take (i := 8) (v := ?_) rfl (by kernel_rfl) (by kernel_rfl) (by kernel_rfl) (fun _ _ _ h => h) (Or.inl ⟨by kernel_rfl, ?_⟩) (by assumption) ?_
    rotate_left
    · intro w hSw
      have q := EP.out
      go_simp
      try with_reducible rfl
    simp only [Act.put, List.setIfInBounds_toArray, List.set_cons_zero, List.set_cons_succ, List.getElem_toArray, List.getElem_cons_succ, List.getElem_cons_zero]
    refine wpAnyH_take (i := 9) (v := ?_) rfl (by kernel_rfl) (by kernel_rfl) (by kernel_rfl) (fun _ _ _ h => h) (Or.inl ⟨by kernel_rfl, ?_⟩) (by assumption) ?_
    rotate_left
    · intro w hSw
      go_simp
      try with_reducible rfl
    simp only [Act.put, List.setIfInBounds_toArray, List.set_cons_zero, List.set_cons_succ, List.getElem_toArray, List.getElem_cons_succ, List.getElem_cons_zero]
    refine wpAnyH_take (i := 10) (v := ?_) rfl (by kernel_rfl) (by kernel_rfl) (by kernel_rfl) (fun _ _ _ h => h) (Or.inl ⟨by kernel_rfl, ?_⟩) (by assumption) ?_
    rotate_left
    · intro w hSw
      go_simp
      try with_reducible rfl
    simp only [Act.put, List.setIfInBounds_toArray, List.set_cons_zero, List.set_cons_succ, List.getElem_toArray, List.getElem_cons_succ, List.getElem_cons_zero]
    refine wpAnyH_take (i := 11) (v := ?_) rfl (by kernel_rfl) (by kernel_rfl) (by kernel_rfl) (fun _ _ _ h => h) (Or.inl ⟨by kernel_rfl, ?_⟩) (by assumption) ?_
    rotate_left
    · intro w hSw
      go_simp
      try with_reducible rfl
    simp only [Act.put, List.setIfInBounds_toArray, List.set_cons_zero, List.set_cons_succ, List.getElem_toArray, List.getElem_cons_succ, List.getElem_cons_zero]
    refine wpAnyH_take (i := 12) (v := ?_) rfl (by kernel_rfl) (by kernel_rfl) (by kernel_rfl) (fun _ _ _ h => h) (Or.inl ⟨by kernel_rfl, ?_⟩) (by assumption) ?_
    rotate_left
    · intro w hSw
      go_simp
      try with_reducible rfl
    simp only [Act.put, List.setIfInBounds_toArray, List.set_cons_zero, List.set_cons_succ, List.getElem_toArray, List.getElem_cons_succ, List.getElem_cons_zero]
    refine wpAnyH_take (i := 13) (v := ?_) rfl (by kernel_rfl) (by kernel_rfl) (by kernel_rfl) (fun _ _ _ h => h) (Or.inl ⟨by kernel_rfl, ?_⟩) (by assumption) ?_
    rotate_left
    · intro w hSw
      go_simp
      try with_reducible rfl
    simp only [Act.put, List.setIfInBounds_toArray, List.set_cons_zero, List.set_cons_succ, List.getElem_toArray, List.getElem_cons_succ, List.getElem_cons_zero]
    refine wpAnyH_take (i := 14) (v := ?_) rfl (by kernel_rfl) (by kernel_rfl) (by kernel_rfl) (fun _ _ _ h => h) (Or.inl ⟨by kernel_rfl, ?_⟩) (by assumption) ?_
    rotate_left
    · intro w hSw
      go_simp
      try with_reducible rfl
    simp only [Act.put, List.setIfInBounds_toArray, List.set_cons_zero, List.set_cons_succ, List.getElem_toArray, List.getElem_cons_succ, List.getElem_cons_zero]
    refine wpAnyH_take (i := 15) (v := ?_) rfl (by kernel_rfl) (by kernel_rfl) (by kernel_rfl) (fun _ _ _ h => h) (Or.inl ⟨by kernel_rfl, ?_⟩) (by assumption) ?_
    rotate_left
    · intro w hSw
      go_simp
      try with_reducible rfl
    simp only [Act.put, List.setIfInBounds_toArray, List.set_cons_zero, List.set_cons_succ, List.getElem_toArray, List.getElem_cons_succ, List.getElem_cons_zero]
    refine wpAnyH_take (i := 16) (v := ?_) rfl (by kernel_rfl) (by kernel_rfl) (by kernel_rfl) (fun _ _ _ h => h) (Or.inl ⟨by kernel_rfl, ?_⟩) (by assumption) ?_
    rotate_left
    · intro w hSw
      go_simp
      try with_reducible rfl
    simp only [Act.put, List.setIfInBounds_toArray, List.set_cons_zero, List.set_cons_succ, List.getElem_toArray, List.getElem_cons_succ, List.getElem_cons_zero]
    refine wpAnyH_take (i := 17) (v := ?_) rfl (by kernel_rfl) (by kernel_rfl) (by kernel_rfl) (fun _ _ _ h => h) (Or.inl ⟨by kernel_rfl, ?_⟩) (by assumption) ?_
    rotate_left
    · intro w hSw
      go_simp
      try with_reducible rfl
    simp only [Act.put, List.setIfInBounds_toArray, List.set_cons_zero, List.set_cons_succ, List.getElem_toArray, List.getElem_cons_succ, List.getElem_cons_zero]
    refine wpAnyH_take (i := 18) (v := ?_) rfl (by kernel_rfl) (by kernel_rfl) (by kernel_rfl) (fun _ _ _ h => h) (Or.inl ⟨by kernel_rfl, ?_⟩) (by assumption) ?_
    rotate_left
    · intro w hSw
      go_simp
      try with_reducible rfl
    simp only [Act.put, List.setIfInBounds_toArray, List.set_cons_zero, List.set_cons_succ, List.getElem_toArray, List.getElem_cons_succ, List.getElem_cons_zero]
    refine wpAnyH_take (i := 19) (v := ?_) rfl (by kernel_rfl) (by kernel_rfl) (by kernel_rfl) (fun _ _ _ h => h) (Or.inl ⟨by kernel_rfl, ?_⟩) (by assumption) ?_
    rotate_left
    · intro w hSw
      go_simp
      try with_reducible rfl
    simp only [Act.put, List.setIfInBounds_toArray, List.set_cons_zero, List.set_cons_succ, List.getElem_toArray, List.getElem_cons_succ, List.getElem_cons_zero]
    refine wpAnyH_ready (rs := [20]) (by kernel_rfl) (by simp) ?_
    refine AllReadyH.cons rfl (fun K hK => ?_) AllReadyH.nil
    rw [if_pos (by kernel_rfl)]; go_simp; go_at_call 8; (with_reducible refine (H11.out _).mono ?_); rintro e w1 ⟨rfl, hb1⟩
    refine hK.out _ _ (PV.below hHeld hb1) (fun hHeld2 => ?_)
    clear hK K hHeld hb1
    have hHeld := hHeld2
    clear hHeld2
    try simp only [Act.put, List.setIfInBounds_toArray, List.set_cons_zero, List.set_cons_succ, List.getElem_toArray, List.getElem_cons_succ, List.getElem_cons_zero]
    refine wpAnyH_take (i := 21) (v := ?_) rfl (by kernel_rfl) (by kernel_rfl) (by kernel_rfl) (fun _ _ _ h => h) (Or.inl ⟨by kernel_rfl, ?_⟩) (by assumption) ?_
    rotate_left
    · intro w hSw
      go_simp
      try with_reducible rfl
    simp only [Act.put, List.setIfInBounds_toArray, List.set_cons_zero, List.set_cons_succ, List.getElem_toArray, List.getElem_cons_succ, List.getElem_cons_zero]
    refine wpAnyH_take (i := 22) (v := ?_) rfl (by kernel_rfl) (by kernel_rfl) (by kernel_rfl) (fun _ _ _ h => h) (Or.inl ⟨by kernel_rfl, ?_⟩) (by assumption) ?_
    rotate_left
    · intro w hSw
      go_simp
      try with_reducible rfl
    simp only [Act.put, List.setIfInBounds_toArray, List.set_cons_zero, List.set_cons_succ, List.getElem_toArray, List.getElem_cons_succ, List.getElem_cons_zero]
    refine wpAnyH_done (by kernel_rfl) ?_ _
    refine NoPanic.normal ?_
    go_wp2
    go_ret
    exact ⟨rfl, hHeld.2.2.2.2⟩
set_option maxRecDepth 100000 in
set_option maxHeartbeats 4000000 in
theorem prods_01 (i j : Int) (x y z px py s xy : Array Value) (hx : x.size = 16) (hx1 : x.all (·.oneCell') = true) (hy : y.size = 16) (hy1 : y.all (·.oneCell') = true) (hz : z.size = 16) (hz1 : z.all (·.oneCell') = true) (hs : s.size = 16) (hs1 : s.all (·.oneCell') = true) (x0 x1 z0 z1 lo hi : Int)
    (h1 : ∀ W, Calls Try.prog 11 #[.int .u8 39, .agg x, .agg z, .int .u8 i] W fun e W' => e = .returned (.agg px) ∧ Below W.heap.size W W')
    (h2 : ∀ W, Calls Try.prog 11 #[.int .u8 39, .agg y, .agg z, .int .u8 i] W fun e W' => e = .returned (.agg py) ∧ Below W.heap.size W W')
    (h3 : ∀ W, Calls Try.prog 11 #[.int .u8 36, .agg px, .agg py, .int .u8 0] W fun e W' => e = .returned (.agg s) ∧ Below W.heap.size W W')
    (h4 : ∀ W, Calls Try.prog 11 #[.int .u8 36, .agg x, .agg y, .int .u8 0] W fun e W' => e = .returned (.agg xy) ∧ Below W.heap.size W W')
    (h5 : ∀ W, Calls Try.prog 11 #[.int .u8 39, .agg xy, .agg z, .int .u8 i] W fun e W' => e = .returned (.agg s) ∧ Below W.heap.size W W')
    (h6 : ∀ W, Calls Try.prog 9 #[.agg x] W fun e W' => e = .returned (.tuple #[.int .u64 x0, .int .u64 x1]) ∧ Below W.heap.size W W')
    (h7 : ∀ W, Calls Try.prog 9 #[.agg z] W fun e W' => e = .returned (.tuple #[.int .u64 z0, .int .u64 z1]) ∧ Below W.heap.size W W')
    (h8 : ∀ W, Calls Try.prog 17 #[.int .u64 x0, .int .u64 z1] W fun e W' => e = .returned (.tuple #[.int .u64 lo, .int .u64 hi]) ∧ Below W.heap.size W W')
    (h9 : ∀ W, Calls Try.prog 9 #[.agg px] W fun e W' => e = .returned (.tuple #[.int .u64 lo, .int .u64 hi]) ∧ Below W.heap.size W W')
    (h10 : ∀ W, Calls Try.prog 11 #[.int .u8 39, .agg z, .agg x, .int .u8 j] W fun e W' => e = .returned (.agg px) ∧ Below W.heap.size W W')
    (h11 : ∀ W, Calls Try.prog 8 #[] W fun e W' => e = .returned (.bool true) ∧ Below W.heap.size W W')
    (ep : ∀ w, (Op.equalIn 10000 22 (.agg px) (.agg px)).run Try.prog w = .ok true w) (es : ∀ w, (Op.equalIn 10000 22 (.agg s) (.agg s)).run Try.prog w = .ok true w)
    (ej : bits .or .u8 (bits .and .u8 (i / 16) 1) (bits .and .u8 i 1 * 16 % 256) = j)
    (g1 : (bits .and .u8 i 1 == 1) = false) (g2 : (bits .and .u8 (i / 16) 1 == 1) = true) (w : World) :
    Calls Try.prog 5 #[.agg x, .agg y, .agg z, .int .u8 i] w fun e w' => e = .returned (.bool true) ∧ Below w.heap.size w w' := by
  have H1 := Lib.hid h1
  have H2 := Lib.hid h2
  have H3 := Lib.hid h3
  have H4 := Lib.hid h4
  have H5 := Lib.hid h5
  have H6 := Lib.hid h6
  have H7 := Lib.hid h7
  have H8 := Lib.hid h8
  have H9 := Lib.hid h9
  have H10 := Lib.hid h10
  have H11 := Lib.hid h11
  have EP := Lib.hid ep
  have ES := Lib.hid es
  have EJ := Lib.hid ej
  have G1 := Lib.hid g1
  have G2 := Lib.hid g2
  have hq1 := (((R16.new w x hx hx1).alloc (.cells y 22)).alloc (.cells z 22))
  have hq2 := (R16.new (w.alloc (.cells x 22)) y hy hy1).alloc (.cells z 22)
  have hq3 := R16.new ((w.alloc (.cells x 22)).alloc (.cells y 22)) z hz hz1
  have hB : Below w.heap.size w (((w.alloc (.cells x 22)).alloc (.cells y 22)).alloc (.cells z 22)) := (((Below.refl _ w).alloc (Nat.le_refl _) _).alloc (by simp) _).alloc (by simp; omega) _
  simp only [World.size_alloc] at hq2 hq3
  have HS : Hid (VS w x y z (((w.alloc (.cells x 22)).alloc (.cells y 22)).alloc (.cells z 22))) := Lib.hid ⟨hq1, hq2, hq3, hB⟩
  clear h1 h2 h3 h4 h5 h6 h7 h8 h9 h10 h11 ep es ej g1 g2 hq1 hq2 hq3 hB
  go_enter Try.func5, Try.ntmps5
  go_upto_region 1 with fail
  generalize World.alloc (World.alloc (World.alloc _ _) _) _ = W0 at *
  go_wp2_with fail
  refine' share (G := _) (HH := fun bs W => PV w x y z s bs W) (fun REST => _) _
  rotate_left
  · skip
    refine wp_region_noPanic ?_
    refine wp_region_held_drew (S := fun W => VS w x y z W) (by kernel_rfl) ?_ (fun hHeld => ?_)
    · exact HS.out.drew
    generalize World.drew _ = v at hHeld ⊢
    refine wpAnyH_take (i := 0) (v := ?_) rfl (by kernel_rfl) (by kernel_rfl) (by kernel_rfl) (fun _ _ _ h => h) (Or.inl ⟨by kernel_rfl, ?_⟩) (by assumption) ?_
    rotate_left
    · intro w hSw
      refine exec_load22 (x := .tmp 4) ?_ ?_ hSw.1
      · rfl
      · rfl
      try with_reducible rfl
    simp only [Act.put, List.setIfInBounds_toArray, List.set_cons_zero, List.set_cons_succ, List.getElem_toArray, List.getElem_cons_succ, List.getElem_cons_zero]
    refine wpAnyH_take (i := 1) (v := ?_) rfl (by kernel_rfl) (by kernel_rfl) (by kernel_rfl) (fun _ _ _ h => h) (Or.inl ⟨by kernel_rfl, ?_⟩) (by assumption) ?_
    rotate_left
    · intro w hSw
      refine exec_load22 (x := .tmp 6) ?_ ?_ hSw.2.2.1
      · rfl
      · rfl
      try with_reducible rfl
    simp only [Act.put, List.setIfInBounds_toArray, List.set_cons_zero, List.set_cons_succ, List.getElem_toArray, List.getElem_cons_succ, List.getElem_cons_zero]
    refine wpAnyH_take (i := 2) (v := ?_) rfl (by kernel_rfl) (by kernel_rfl) (by kernel_rfl) (fun _ _ _ h => h) (Or.inl ⟨by kernel_rfl, ?_⟩) (by assumption) ?_
    rotate_left
    · intro w hSw
      go_simp
      try with_reducible rfl
    simp only [Act.put, List.setIfInBounds_toArray, List.set_cons_zero, List.set_cons_succ, List.getElem_toArray, List.getElem_cons_succ, List.getElem_cons_zero]
    refine wpAnyH_take (i := 4) (v := ?_) rfl (by kernel_rfl) (by kernel_rfl) (by kernel_rfl) (fun _ _ _ h => h) (Or.inl ⟨by kernel_rfl, ?_⟩) (by assumption) ?_
    rotate_left
    · intro w hSw
      refine exec_load22 (x := .tmp 5) ?_ ?_ hSw.2.1
      · rfl
      · rfl
      try with_reducible rfl
    simp only [Act.put, List.setIfInBounds_toArray, List.set_cons_zero, List.set_cons_succ, List.getElem_toArray, List.getElem_cons_succ, List.getElem_cons_zero]
    refine wpAnyH_take (i := 5) (v := ?_) rfl (by kernel_rfl) (by kernel_rfl) (by kernel_rfl) (fun _ _ _ h => h) (Or.inl ⟨by kernel_rfl, ?_⟩) (by assumption) ?_
    rotate_left
    · intro w hSw
      refine exec_load22 (x := .tmp 6) ?_ ?_ hSw.2.2.1
      · rfl
      · rfl
      try with_reducible rfl
    simp only [Act.put, List.setIfInBounds_toArray, List.set_cons_zero, List.set_cons_succ, List.getElem_toArray, List.getElem_cons_succ, List.getElem_cons_zero]
    refine wpAnyH_take (i := 6) (v := ?_) rfl (by kernel_rfl) (by kernel_rfl) (by kernel_rfl) (fun _ _ _ h => h) (Or.inl ⟨by kernel_rfl, ?_⟩) (by assumption) ?_
    rotate_left
    · intro w hSw
      go_simp
      try with_reducible rfl
    simp only [Act.put, List.setIfInBounds_toArray, List.set_cons_zero, List.set_cons_succ, List.getElem_toArray, List.getElem_cons_succ, List.getElem_cons_zero]
    refine wpAnyH_ready (rs := [3, 9]) (by kernel_rfl) (by simp) ?_
    refine AllReadyH.cons rfl (fun K hK => ?_) (AllReadyH.cons rfl (fun K hK => ?_) AllReadyH.nil)
    · rw [if_pos (by kernel_rfl)]; go_simp; go_at_call 11; (with_reducible refine (H1.out _).mono ?_); rintro e vc ⟨rfl, hb1⟩
      refine hK.out _ _ (VS.below hHeld hb1) (fun hHeld2 => ?_)
      clear hK K hHeld hb1
      have hHeld := hHeld2
      clear hHeld2
      try simp only [Act.put, List.setIfInBounds_toArray, List.set_cons_zero, List.set_cons_succ, List.getElem_toArray, List.getElem_cons_succ, List.getElem_cons_zero]
      refine wpAnyH_ready (rs := [7, 9]) (by kernel_rfl) (by simp) ?_
      refine AllReadyH.cons rfl (fun K hK => ?_) (AllReadyH.cons rfl (fun K hK => ?_) AllReadyH.nil)
      · rw [if_pos (by kernel_rfl)]; go_simp; go_at_call 11; (with_reducible refine (H2.out _).mono ?_); rintro e vcc ⟨rfl, hb1⟩
        refine hK.out _ _ (VS.below hHeld hb1) (fun hHeld2 => ?_)
        clear hK K hHeld hb1
        have hHeld := hHeld2
        clear hHeld2
        try simp only [Act.put, List.setIfInBounds_toArray, List.set_cons_zero, List.set_cons_succ, List.getElem_toArray, List.getElem_cons_succ, List.getElem_cons_zero]
        refine wpAnyH_ready (rs := [8, 9]) (by kernel_rfl) (by simp) ?_
        refine AllReadyH.cons rfl (fun K hK => ?_) (AllReadyH.cons rfl (fun K hK => ?_) AllReadyH.nil)
        · rw [if_pos (by kernel_rfl)]; go_simp; go_at_call 11; (with_reducible refine (H3.out _).mono ?_); rintro e vccc ⟨rfl, hb1⟩
          refine hK.out _ _ (VS.below hHeld hb1) (fun hHeld2 => ?_)
          clear hK K hHeld hb1
          have hHeld := hHeld2
          clear hHeld2
          try simp only [Act.put, List.setIfInBounds_toArray, List.set_cons_zero, List.set_cons_succ, List.getElem_toArray, List.getElem_cons_succ, List.getElem_cons_zero]
          refine wpAnyH_ready (rs := [9]) (by kernel_rfl) (by simp) ?_
          refine AllReadyH.cons rfl (fun K hK => ?_) AllReadyH.nil
          rw [if_pos (by kernel_rfl)]
          obtain ⟨a1, hR9, hne⟩ := hHeld.alloc9
          go_simp
          refine hK.out _ _ a1 (fun hHeld2 => ?_)
          clear hK K hHeld a1
          have hHeld := hHeld2
          clear hHeld2
          generalize World.alloc _ _ = vccca at *
          generalize vccc.heap.size = bs at *
          try simp only [Act.put, List.setIfInBounds_toArray, List.set_cons_zero, List.set_cons_succ, List.getElem_toArray, List.getElem_cons_succ, List.getElem_cons_zero]
          refine wpAnyH_ready (rs := [10]) (by kernel_rfl) (by simp) ?_
          refine AllReadyH.cons rfl (fun K hK => ?_) AllReadyH.nil
          rw [if_pos (by kernel_rfl)]
          have hP := Lib.hid (PV.of hHeld hR9 hne hs hs1)
          refine wp_store22 (x := .tmp 9) (y := .tmp 27) ?_ ?_ ?_ hR9 hs hs1 ?_
          · rfl
          · rfl
          · rfl
          refine hK.out _ _ ⟨hP.out.1, hP.out.2.1, hP.out.2.2.1, hP.out.2.2.2.2⟩ (fun hHeld2 => ?_)
          clear hK K hHeld hHeld2 hR9
          try simp only [Act.put, List.setIfInBounds_toArray, List.set_cons_zero, List.set_cons_succ, List.getElem_toArray, List.getElem_cons_succ, List.getElem_cons_zero]
          refine wpAnyH_done (by kernel_rfl) ?_ _
          refine NoPanic.normal ?_
          generalize World.setRow _ _ _ = W9 at hP ⊢
          exact REST _ _ hP.out
        · rw [if_pos (by kernel_rfl)]
          obtain ⟨a1, hR9, hne⟩ := hHeld.alloc9
          go_simp
          refine hK.out _ _ a1 (fun hHeld2 => ?_)
          clear hK K hHeld a1
          have hHeld := hHeld2
          clear hHeld2
          generalize World.alloc _ _ = vcca at *
          generalize vcc.heap.size = bs at *
          try simp only [Act.put, List.setIfInBounds_toArray, List.set_cons_zero, List.set_cons_succ, List.getElem_toArray, List.getElem_cons_succ, List.getElem_cons_zero]
          refine wpAnyH_ready (rs := [8]) (by kernel_rfl) (by simp) ?_
          refine AllReadyH.cons rfl (fun K hK => ?_) AllReadyH.nil
          rw [if_pos (by kernel_rfl)]; go_simp; go_at_call 11; (with_reducible refine (H3.out _).mono ?_); rintro e vccac ⟨rfl, hb1⟩
          have hR9 := hR9.keep hb1
          refine hK.out _ _ (VS.below hHeld hb1) (fun hHeld2 => ?_)
          clear hK K hHeld hb1
          have hHeld := hHeld2
          clear hHeld2
          try simp only [Act.put, List.setIfInBounds_toArray, List.set_cons_zero, List.set_cons_succ, List.getElem_toArray, List.getElem_cons_succ, List.getElem_cons_zero]
          refine wpAnyH_ready (rs := [10]) (by kernel_rfl) (by simp) ?_
          refine AllReadyH.cons rfl (fun K hK => ?_) AllReadyH.nil
          rw [if_pos (by kernel_rfl)]
          have hP := Lib.hid (PV.of hHeld hR9 hne hs hs1)
          refine wp_store22 (x := .tmp 9) (y := .tmp 27) ?_ ?_ ?_ hR9 hs hs1 ?_
          · rfl
          · rfl
          · rfl
          refine hK.out _ _ ⟨hP.out.1, hP.out.2.1, hP.out.2.2.1, hP.out.2.2.2.2⟩ (fun hHeld2 => ?_)
          clear hK K hHeld hHeld2 hR9
          try simp only [Act.put, List.setIfInBounds_toArray, List.set_cons_zero, List.set_cons_succ, List.getElem_toArray, List.getElem_cons_succ, List.getElem_cons_zero]
          refine wpAnyH_done (by kernel_rfl) ?_ _
          refine NoPanic.normal ?_
          generalize World.setRow _ _ _ = W9 at hP ⊢
          exact REST _ _ hP.out
      · rw [if_pos (by kernel_rfl)]
        obtain ⟨a1, hR9, hne⟩ := hHeld.alloc9
        go_simp
        refine hK.out _ _ a1 (fun hHeld2 => ?_)
        clear hK K hHeld a1
        have hHeld := hHeld2
        clear hHeld2
        generalize World.alloc _ _ = vca at *
        generalize vc.heap.size = bs at *
        try simp only [Act.put, List.setIfInBounds_toArray, List.set_cons_zero, List.set_cons_succ, List.getElem_toArray, List.getElem_cons_succ, List.getElem_cons_zero]
        refine wpAnyH_ready (rs := [7]) (by kernel_rfl) (by simp) ?_
        refine AllReadyH.cons rfl (fun K hK => ?_) AllReadyH.nil
        rw [if_pos (by kernel_rfl)]; go_simp; go_at_call 11; (with_reducible refine (H2.out _).mono ?_); rintro e vcac ⟨rfl, hb1⟩
        have hR9 := hR9.keep hb1
        refine hK.out _ _ (VS.below hHeld hb1) (fun hHeld2 => ?_)
        clear hK K hHeld hb1
        have hHeld := hHeld2
        clear hHeld2
        try simp only [Act.put, List.setIfInBounds_toArray, List.set_cons_zero, List.set_cons_succ, List.getElem_toArray, List.getElem_cons_succ, List.getElem_cons_zero]
        refine wpAnyH_ready (rs := [8]) (by kernel_rfl) (by simp) ?_
        refine AllReadyH.cons rfl (fun K hK => ?_) AllReadyH.nil
        rw [if_pos (by kernel_rfl)]; go_simp; go_at_call 11; (with_reducible refine (H3.out _).mono ?_); rintro e vcacc ⟨rfl, hb1⟩
        have hR9 := hR9.keep hb1
        refine hK.out _ _ (VS.below hHeld hb1) (fun hHeld2 => ?_)
        clear hK K hHeld hb1
        have hHeld := hHeld2
        clear hHeld2
        try simp only [Act.put, List.setIfInBounds_toArray, List.set_cons_zero, List.set_cons_succ, List.getElem_toArray, List.getElem_cons_succ, List.getElem_cons_zero]
        refine wpAnyH_ready (rs := [10]) (by kernel_rfl) (by simp) ?_
        refine AllReadyH.cons rfl (fun K hK => ?_) AllReadyH.nil
        rw [if_pos (by kernel_rfl)]
        have hP := Lib.hid (PV.of hHeld hR9 hne hs hs1)
        refine wp_store22 (x := .tmp 9) (y := .tmp 27) ?_ ?_ ?_ hR9 hs hs1 ?_
        · rfl
        · rfl
        · rfl
        refine hK.out _ _ ⟨hP.out.1, hP.out.2.1, hP.out.2.2.1, hP.out.2.2.2.2⟩ (fun hHeld2 => ?_)
        clear hK K hHeld hHeld2 hR9
        try simp only [Act.put, List.setIfInBounds_toArray, List.set_cons_zero, List.set_cons_succ, List.getElem_toArray, List.getElem_cons_succ, List.getElem_cons_zero]
        refine wpAnyH_done (by kernel_rfl) ?_ _
        refine NoPanic.normal ?_
        generalize World.setRow _ _ _ = W9 at hP ⊢
        exact REST _ _ hP.out
    · rw [if_pos (by kernel_rfl)]
      obtain ⟨a1, hR9, hne⟩ := hHeld.alloc9
      go_simp
      refine hK.out _ _ a1 (fun hHeld2 => ?_)
      clear hK K hHeld a1
      have hHeld := hHeld2
      clear hHeld2
      generalize World.alloc _ _ = va at *
      generalize v.heap.size = bs at *
      try simp only [Act.put, List.setIfInBounds_toArray, List.set_cons_zero, List.set_cons_succ, List.getElem_toArray, List.getElem_cons_succ, List.getElem_cons_zero]
      refine wpAnyH_ready (rs := [3]) (by kernel_rfl) (by simp) ?_
      refine AllReadyH.cons rfl (fun K hK => ?_) AllReadyH.nil
      rw [if_pos (by kernel_rfl)]; go_simp; go_at_call 11; (with_reducible refine (H1.out _).mono ?_); rintro e vac ⟨rfl, hb1⟩
      have hR9 := hR9.keep hb1
      refine hK.out _ _ (VS.below hHeld hb1) (fun hHeld2 => ?_)
      clear hK K hHeld hb1
      have hHeld := hHeld2
      clear hHeld2
      try simp only [Act.put, List.setIfInBounds_toArray, List.set_cons_zero, List.set_cons_succ, List.getElem_toArray, List.getElem_cons_succ, List.getElem_cons_zero]
      refine wpAnyH_ready (rs := [7]) (by kernel_rfl) (by simp) ?_
      refine AllReadyH.cons rfl (fun K hK => ?_) AllReadyH.nil
      rw [if_pos (by kernel_rfl)]; go_simp; go_at_call 11; (with_reducible refine (H2.out _).mono ?_); rintro e vacc ⟨rfl, hb1⟩
      have hR9 := hR9.keep hb1
      refine hK.out _ _ (VS.below hHeld hb1) (fun hHeld2 => ?_)
      clear hK K hHeld hb1
      have hHeld := hHeld2
      clear hHeld2
      try simp only [Act.put, List.setIfInBounds_toArray, List.set_cons_zero, List.set_cons_succ, List.getElem_toArray, List.getElem_cons_succ, List.getElem_cons_zero]
      refine wpAnyH_ready (rs := [8]) (by kernel_rfl) (by simp) ?_
      refine AllReadyH.cons rfl (fun K hK => ?_) AllReadyH.nil
      rw [if_pos (by kernel_rfl)]; go_simp; go_at_call 11; (with_reducible refine (H3.out _).mono ?_); rintro e vaccc ⟨rfl, hb1⟩
      have hR9 := hR9.keep hb1
      refine hK.out _ _ (VS.below hHeld hb1) (fun hHeld2 => ?_)
      clear hK K hHeld hb1
      have hHeld := hHeld2
      clear hHeld2
      try simp only [Act.put, List.setIfInBounds_toArray, List.set_cons_zero, List.set_cons_succ, List.getElem_toArray, List.getElem_cons_succ, List.getElem_cons_zero]
      refine wpAnyH_ready (rs := [10]) (by kernel_rfl) (by simp) ?_
      refine AllReadyH.cons rfl (fun K hK => ?_) AllReadyH.nil
      rw [if_pos (by kernel_rfl)]
      have hP := Lib.hid (PV.of hHeld hR9 hne hs hs1)
      refine wp_store22 (x := .tmp 9) (y := .tmp 27) ?_ ?_ ?_ hR9 hs hs1 ?_
      · rfl
      · rfl
      · rfl
      refine hK.out _ _ ⟨hP.out.1, hP.out.2.1, hP.out.2.2.1, hP.out.2.2.2.2⟩ (fun hHeld2 => ?_)
      clear hK K hHeld hHeld2 hR9
      try simp only [Act.put, List.setIfInBounds_toArray, List.set_cons_zero, List.set_cons_succ, List.getElem_toArray, List.getElem_cons_succ, List.getElem_cons_zero]
      refine wpAnyH_done (by kernel_rfl) ?_ _
      refine NoPanic.normal ?_
      generalize World.setRow _ _ _ = W9 at hP ⊢
      exact REST _ _ hP.out
  · rintro bs W9 hP
    have HS := Lib.hid hP
    clear hP
    go_wp2_with fail
    refine wp_region_noPanic ?_
    refine wp_region_held_drew (S := fun W => PV w x y z s bs W) (by kernel_rfl) ?_ (fun hHeld => ?_)
    · exact HS.out.drew
    generalize World.drew _ = W5 at hHeld ⊢
    clear HS
    refine wpAnyH_take (i := 0) (v := ?_) rfl (by kernel_rfl) (by kernel_rfl) (by kernel_rfl) (fun _ _ _ h => h) (Or.inl ⟨by kernel_rfl, ?_⟩) (by assumption) ?_
    rotate_left
    · intro w hSw
      refine exec_load22 (x := .tmp 4) ?_ ?_ hSw.1
      · rfl
      · rfl
      try with_reducible rfl
    simp only [Act.put, List.setIfInBounds_toArray, List.set_cons_zero, List.set_cons_succ, List.getElem_toArray, List.getElem_cons_succ, List.getElem_cons_zero]
    refine wpAnyH_take (i := 1) (v := ?_) rfl (by kernel_rfl) (by kernel_rfl) (by kernel_rfl) (fun _ _ _ h => h) (Or.inl ⟨by kernel_rfl, ?_⟩) (by assumption) ?_
    rotate_left
    · intro w hSw
      refine exec_load22 (x := .tmp 5) ?_ ?_ hSw.2.1
      · rfl
      · rfl
      try with_reducible rfl
    simp only [Act.put, List.setIfInBounds_toArray, List.set_cons_zero, List.set_cons_succ, List.getElem_toArray, List.getElem_cons_succ, List.getElem_cons_zero]
    refine wpAnyH_take (i := 3) (v := ?_) rfl (by kernel_rfl) (by kernel_rfl) (by kernel_rfl) (fun _ _ _ h => h) (Or.inl ⟨by kernel_rfl, ?_⟩) (by assumption) ?_
    rotate_left
    · intro w hSw
      refine exec_load22 (x := .tmp 6) ?_ ?_ hSw.2.2.1
      · rfl
      · rfl
      try with_reducible rfl
    simp only [Act.put, List.setIfInBounds_toArray, List.set_cons_zero, List.set_cons_succ, List.getElem_toArray, List.getElem_cons_succ, List.getElem_cons_zero]
    refine wpAnyH_take (i := 4) (v := ?_) rfl (by kernel_rfl) (by kernel_rfl) (by kernel_rfl) (fun _ _ _ h => h) (Or.inl ⟨by kernel_rfl, ?_⟩) (by assumption) ?_
    rotate_left
    · intro w hSw
      go_simp
      try with_reducible rfl
    simp only [Act.put, List.setIfInBounds_toArray, List.set_cons_zero, List.set_cons_succ, List.getElem_toArray, List.getElem_cons_succ, List.getElem_cons_zero]
    refine wpAnyH_take (i := 6) (v := ?_) rfl (by kernel_rfl) (by kernel_rfl) (by kernel_rfl) (fun _ _ _ h => h) (Or.inl ⟨by kernel_rfl, ?_⟩) (by assumption) ?_
    rotate_left
    · intro w hSw
      refine exec_load22 (x := .tmp 9) ?_ ?_ hSw.2.2.2.1
      · rfl
      · rfl
      try with_reducible rfl
    simp only [Act.put, List.setIfInBounds_toArray, List.set_cons_zero, List.set_cons_succ, List.getElem_toArray, List.getElem_cons_succ, List.getElem_cons_zero]
    refine wpAnyH_ready (rs := [2]) (by kernel_rfl) (by simp) ?_
    refine AllReadyH.cons rfl (fun K hK => ?_) AllReadyH.nil
    rw [if_pos (by kernel_rfl)]; go_simp; go_at_call 11; (with_reducible refine (H4.out _).mono ?_); rintro e w1 ⟨rfl, hb1⟩
    refine hK.out _ _ (PV.below hHeld hb1) (fun hHeld2 => ?_)
    clear hK K hHeld hb1
    have hHeld := hHeld2
    clear hHeld2
    try simp only [Act.put, List.setIfInBounds_toArray, List.set_cons_zero, List.set_cons_succ, List.getElem_toArray, List.getElem_cons_succ, List.getElem_cons_zero]
    refine wpAnyH_ready (rs := [5]) (by kernel_rfl) (by simp) ?_
    refine AllReadyH.cons rfl (fun K hK => ?_) AllReadyH.nil
    rw [if_pos (by kernel_rfl)]; go_simp; go_at_call 11; (with_reducible refine (H5.out _).mono ?_); rintro e w1 ⟨rfl, hb1⟩
    refine hK.out _ _ (PV.below hHeld hb1) (fun hHeld2 => ?_)
    clear hK K hHeld hb1
    have hHeld := hHeld2
    clear hHeld2
    try simp only [Act.put, List.setIfInBounds_toArray, List.set_cons_zero, List.set_cons_succ, List.getElem_toArray, List.getElem_cons_succ, List.getElem_cons_zero]
    refine wpAnyH_take (i := 7) (v := ?_) rfl (by kernel_rfl) (by kernel_rfl) (by kernel_rfl) (fun _ _ _ h => h) (Or.inl ⟨by kernel_rfl, ?_⟩) (by assumption) ?_
    rotate_left
    · intro w hSw
      have q := ES.out
      go_simp
      try with_reducible rfl
    simp only [Act.put, List.setIfInBounds_toArray, List.set_cons_zero, List.set_cons_succ, List.getElem_toArray, List.getElem_cons_succ, List.getElem_cons_zero]
    refine wpAnyH_done (by kernel_rfl) ?_ _
    refine NoPanic.normal ?_
    have HS0 := Lib.hid hHeld
    clear hHeld
    go_wp2_with (first | (refine wpList_load22 rfl rfl rfl HS0.out.1 ?_) | (refine wpList_load22 rfl rfl rfl HS0.out.2.2.1 ?_))
    rw [EJ.out]
    go_at_call 9
    with_reducible refine (H6.out _).mono ?_
    rintro e w1 ⟨rfl, hb1⟩
    have HS1 := Lib.hid (HS0.out.below hb1)
    clear HS0 hb1
    have g1 := G1.out
    go_wp2_with (first | (refine wpList_load22 rfl rfl rfl HS1.out.1 ?_) | (refine wpList_load22 rfl rfl rfl HS1.out.2.2.1 ?_))
    go_at_call 9
    with_reducible refine (H7.out _).mono ?_
    rintro e w2 ⟨rfl, hb1⟩
    have HS2 := Lib.hid (HS1.out.below hb1)
    clear HS1 hb1
    have g2 := G2.out
    go_wp2_with (first | (refine wpList_load22 rfl rfl rfl HS2.out.1 ?_) | (refine wpList_load22 rfl rfl rfl HS2.out.2.2.1 ?_))
    go_at_call 17
    with_reducible refine (H8.out _).mono ?_
    rintro e w3 ⟨rfl, hb1⟩
    have HS3 := Lib.hid (HS2.out.below hb1)
    clear HS2 hb1
    go_wp2_with (first | (refine wpList_load22 rfl rfl rfl HS3.out.1 ?_) | (refine wpList_load22 rfl rfl rfl HS3.out.2.2.1 ?_))
    go_at_call 11
    with_reducible refine (H1.out _).mono ?_
    rintro e w4 ⟨rfl, hb1⟩
    have HS4 := Lib.hid (HS3.out.below hb1)
    clear HS3 hb1
    go_wp2_with (first | (refine wpList_load22 rfl rfl rfl HS4.out.1 ?_) | (refine wpList_load22 rfl rfl rfl HS4.out.2.2.1 ?_))
    go_at_call 9
    with_reducible refine (H9.out _).mono ?_
    rintro e w5 ⟨rfl, hb1⟩
    have HS5 := Lib.hid (HS4.out.below hb1)
    clear HS4 hb1
    go_wp2_with fail
    refine wp_region_noPanic ?_
    refine wp_region_held_drew (S := fun W => PV w x y z s bs W) (by kernel_rfl) ?_ (fun hHeld => ?_)
    · exact HS5.out.drew
    generalize World.drew _ = W6 at hHeld ⊢
    clear HS5
    refine wpAnyH_take (i := 0) (v := ?_) rfl (by kernel_rfl) (by kernel_rfl) (by kernel_rfl) (fun _ _ _ h => h) (Or.inl ⟨by kernel_rfl, ?_⟩) (by assumption) ?_
    rotate_left
    · intro w hSw
      refine exec_load22 (x := .tmp 6) ?_ ?_ hSw.2.2.1
      · rfl
      · rfl
      try with_reducible rfl
    simp only [Act.put, List.setIfInBounds_toArray, List.set_cons_zero, List.set_cons_succ, List.getElem_toArray, List.getElem_cons_succ, List.getElem_cons_zero]
    refine wpAnyH_take (i := 1) (v := ?_) rfl (by kernel_rfl) (by kernel_rfl) (by kernel_rfl) (fun _ _ _ h => h) (Or.inl ⟨by kernel_rfl, ?_⟩) (by assumption) ?_
    rotate_left
    · intro w hSw
      refine exec_load22 (x := .tmp 4) ?_ ?_ hSw.1
      · rfl
      · rfl
      try with_reducible rfl
    simp only [Act.put, List.setIfInBounds_toArray, List.set_cons_zero, List.set_cons_succ, List.getElem_toArray, List.getElem_cons_succ, List.getElem_cons_zero]
    refine wpAnyH_take (i := 2) (v := ?_) rfl (by kernel_rfl) (by kernel_rfl) (by kernel_rfl) (fun _ _ _ h => h) (Or.inl ⟨by kernel_rfl, ?_⟩) (by assumption) ?_
    rotate_left
    · intro w hSw
      go_simp
      try with_reducible rfl
    simp only [Act.put, List.setIfInBounds_toArray, List.set_cons_zero, List.set_cons_succ, List.getElem_toArray, List.getElem_cons_succ, List.getElem_cons_zero]
    refine wpAnyH_take (i := 4) (v := ?_) rfl (by kernel_rfl) (by kernel_rfl) (by kernel_rfl) (fun _ _ _ h => h) (Or.inl ⟨by kernel_rfl, ?_⟩) (by assumption) ?_
    rotate_left
    · intro w hSw
      refine exec_load22 (x := .tmp 4) ?_ ?_ hSw.1
      · rfl
      · rfl
      try with_reducible rfl
    simp only [Act.put, List.setIfInBounds_toArray, List.set_cons_zero, List.set_cons_succ, List.getElem_toArray, List.getElem_cons_succ, List.getElem_cons_zero]
    refine wpAnyH_take (i := 5) (v := ?_) rfl (by kernel_rfl) (by kernel_rfl) (by kernel_rfl) (fun _ _ _ h => h) (Or.inl ⟨by kernel_rfl, ?_⟩) (by assumption) ?_
    rotate_left
    · intro w hSw
      refine exec_load22 (x := .tmp 6) ?_ ?_ hSw.2.2.1
      · rfl
      · rfl
      try with_reducible rfl
    simp only [Act.put, List.setIfInBounds_toArray, List.set_cons_zero, List.set_cons_succ, List.getElem_toArray, List.getElem_cons_succ, List.getElem_cons_zero]
    refine wpAnyH_take (i := 6) (v := ?_) rfl (by kernel_rfl) (by kernel_rfl) (by kernel_rfl) (fun _ _ _ h => h) (Or.inl ⟨by kernel_rfl, ?_⟩) (by assumption) ?_
    rotate_left
    · intro w hSw
      go_simp
      try with_reducible rfl
    simp only [Act.put, List.setIfInBounds_toArray, List.set_cons_zero, List.set_cons_succ, List.getElem_toArray, List.getElem_cons_succ, List.getElem_cons_zero]
    refine wpAnyH_ready (rs := [3]) (by kernel_rfl) (by simp) ?_
    refine AllReadyH.cons rfl (fun K hK => ?_) AllReadyH.nil
    rw [if_pos (by kernel_rfl)]; go_simp; go_at_call 11; (with_reducible refine (H10.out _).mono ?_); rintro e w1 ⟨rfl, hb1⟩
    refine hK.out _ _ (PV.below hHeld hb1) (fun hHeld2 => ?_)
    clear hK K hHeld hb1
    have hHeld := hHeld2
    clear hHeld2
    try simp only [Act.put, List.setIfInBounds_toArray, List.set_cons_zero, List.set_cons_succ, List.getElem_toArray, List.getElem_cons_succ, List.getElem_cons_zero]
    refine wpAnyH_ready (rs := [7]) (by kernel_rfl) (by simp) ?_
    refine AllReadyH.cons rfl (fun K hK => ?_) AllReadyH.nil
    rw [if_pos (by kernel_rfl)]; go_simp; go_at_call 11; (with_reducible refine (H1.out _).mono ?_); rintro e w1 ⟨rfl, hb1⟩
    refine hK.out _ _ (PV.below hHeld hb1) (fun hHeld2 => ?_)
    clear hK K hHeld hb1
    have hHeld := hHeld2
    clear hHeld2
    try simp only [Act.put, List.setIfInBounds_toArray, List.set_cons_zero, List.set_cons_succ, List.getElem_toArray, List.getElem_cons_succ, List.getElem_cons_zero]
    refine wpAnyH_take (i := 8) (v := ?_) rfl (by kernel_rfl) (by kernel_rfl) (by kernel_rfl) (fun _ _ _ h => h) (Or.inl ⟨by kernel_rfl, ?_⟩) (by assumption) ?_
    rotate_left
    · intro w hSw
      have q := EP.out
      go_simp
      try with_reducible rfl
    simp only [Act.put, List.setIfInBounds_toArray, List.set_cons_zero, List.set_cons_succ, List.getElem_toArray, List.getElem_cons_succ, List.getElem_cons_zero]
    refine wpAnyH_take (i := 9) (v := ?_) rfl (by kernel_rfl) (by kernel_rfl) (by kernel_rfl) (fun _ _ _ h => h) (Or.inl ⟨by kernel_rfl, ?_⟩) (by assumption) ?_
    rotate_left
    · intro w hSw
      go_simp
      try with_reducible rfl
    simp only [Act.put, List.setIfInBounds_toArray, List.set_cons_zero, List.set_cons_succ, List.getElem_toArray, List.getElem_cons_succ, List.getElem_cons_zero]
    refine wpAnyH_take (i := 10) (v := ?_) rfl (by kernel_rfl) (by kernel_rfl) (by kernel_rfl) (fun _ _ _ h => h) (Or.inl ⟨by kernel_rfl, ?_⟩) (by assumption) ?_
    rotate_left
    · intro w hSw
      go_simp
      try with_reducible rfl
    simp only [Act.put, List.setIfInBounds_toArray, List.set_cons_zero, List.set_cons_succ, List.getElem_toArray, List.getElem_cons_succ, List.getElem_cons_zero]
    refine wpAnyH_take (i := 11) (v := ?_) rfl (by kernel_rfl) (by kernel_rfl) (by kernel_rfl) (fun _ _ _ h => h) (Or.inl ⟨by kernel_rfl, ?_⟩) (by assumption) ?_
    rotate_left
    · intro w hSw
      go_simp
      try with_reducible rfl
    simp only [Act.put, List.setIfInBounds_toArray, List.set_cons_zero, List.set_cons_succ, List.getElem_toArray, List.getElem_cons_succ, List.getElem_cons_zero]
    refine wpAnyH_take (i := 12) (v := ?_) rfl (by kernel_rfl) (by kernel_rfl) (by kernel_rfl) (fun _ _ _ h => h) (Or.inl ⟨by kernel_rfl, ?_⟩) (by assumption) ?_
    rotate_left
    · intro w hSw
      go_simp
      try with_reducible rfl
    simp only [Act.put, List.setIfInBounds_toArray, List.set_cons_zero, List.set_cons_succ, List.getElem_toArray, List.getElem_cons_succ, List.getElem_cons_zero]
    refine wpAnyH_take (i := 13) (v := ?_) rfl (by kernel_rfl) (by kernel_rfl) (by kernel_rfl) (fun _ _ _ h => h) (Or.inl ⟨by kernel_rfl, ?_⟩) (by assumption) ?_
    rotate_left
    · intro w hSw
      go_simp
      try with_reducible rfl
    simp only [Act.put, List.setIfInBounds_toArray, List.set_cons_zero, List.set_cons_succ, List.getElem_toArray, List.getElem_cons_succ, List.getElem_cons_zero]
    refine wpAnyH_take (i := 14) (v := ?_) rfl (by kernel_rfl) (by kernel_rfl) (by kernel_rfl) (fun _ _ _ h => h) (Or.inl ⟨by kernel_rfl, ?_⟩) (by assumption) ?_
    rotate_left
    · intro w hSw
      go_simp
      try with_reducible rfl
    simp only [Act.put, List.setIfInBounds_toArray, List.set_cons_zero, List.set_cons_succ, List.getElem_toArray, List.getElem_cons_succ, List.getElem_cons_zero]
    refine wpAnyH_take (i := 15) (v := ?_) rfl (by kernel_rfl) (by kernel_rfl) (by kernel_rfl) (fun _ _ _ h => h) (Or.inl ⟨by kernel_rfl, ?_⟩) (by assumption) ?_
    rotate_left
    · intro w hSw
      go_simp
      try with_reducible rfl
    simp only [Act.put, List.setIfInBounds_toArray, List.set_cons_zero, List.set_cons_succ, List.getElem_toArray, List.getElem_cons_succ, List.getElem_cons_zero]
    refine wpAnyH_take (i := 16) (v := ?_) rfl (by kernel_rfl) (by kernel_rfl) (by kernel_rfl) (fun _ _ _ h => h) (Or.inl ⟨by kernel_rfl, ?_⟩) (by assumption) ?_
    rotate_left
    · intro w hSw
      go_simp
      try with_reducible rfl
    simp only [Act.put, List.setIfInBounds_toArray, List.set_cons_zero, List.set_cons_succ, List.getElem_toArray, List.getElem_cons_succ, List.getElem_cons_zero]
    refine wpAnyH_take (i := 17) (v := ?_) rfl (by kernel_rfl) (by kernel_rfl) (by kernel_rfl) (fun _ _ _ h => h) (Or.inl ⟨by kernel_rfl, ?_⟩) (by assumption) ?_
    rotate_left
    · intro w hSw
      go_simp
      try with_reducible rfl
    simp only [Act.put, List.setIfInBounds_toArray, List.set_cons_zero, List.set_cons_succ, List.getElem_toArray, List.getElem_cons_succ, List.getElem_cons_zero]
    refine wpAnyH_take (i := 18) (v := ?_) rfl (by kernel_rfl) (by kernel_rfl) (by kernel_rfl) (fun _ _ _ h => h) (Or.inl ⟨by kernel_rfl, ?_⟩) (by assumption) ?_
    rotate_left
    · intro w hSw
      go_simp
      try with_reducible rfl
    simp only [Act.put, List.setIfInBounds_toArray, List.set_cons_zero, List.set_cons_succ, List.getElem_toArray, List.getElem_cons_succ, List.getElem_cons_zero]
    refine wpAnyH_take (i := 19) (v := ?_) rfl (by kernel_rfl) (by kernel_rfl) (by kernel_rfl) (fun _ _ _ h => h) (Or.inl ⟨by kernel_rfl, ?_⟩) (by assumption) ?_
    rotate_left
    · intro w hSw
      go_simp
      try with_reducible rfl
    simp only [Act.put, List.setIfInBounds_toArray, List.set_cons_zero, List.set_cons_succ, List.getElem_toArray, List.getElem_cons_succ, List.getElem_cons_zero]
    refine wpAnyH_ready (rs := [20]) (by kernel_rfl) (by simp) ?_
    refine AllReadyH.cons rfl (fun K hK => ?_) AllReadyH.nil
    rw [if_pos (by kernel_rfl)]; go_simp; go_at_call 8; (with_reducible refine (H11.out _).mono ?_); rintro e w1 ⟨rfl, hb1⟩
    refine hK.out _ _ (PV.below hHeld hb1) (fun hHeld2 => ?_)
    clear hK K hHeld hb1
    have hHeld := hHeld2
    clear hHeld2
    try simp only [Act.put, List.setIfInBounds_toArray, List.set_cons_zero, List.set_cons_succ, List.getElem_toArray, List.getElem_cons_succ, List.getElem_cons_zero]
    refine wpAnyH_take (i := 21) (v := ?_) rfl (by kernel_rfl) (by kernel_rfl) (by kernel_rfl) (fun _ _ _ h => h) (Or.inl ⟨by kernel_rfl, ?_⟩) (by assumption) ?_
    rotate_left
    · intro w hSw
      go_simp
      try with_reducible rfl
    simp only [Act.put, List.setIfInBounds_toArray, List.set_cons_zero, List.set_cons_succ, List.getElem_toArray, List.getElem_cons_succ, List.getElem_cons_zero]
    refine wpAnyH_take (i := 22) (v := ?_) rfl (by kernel_rfl) (by kernel_rfl) (by kernel_rfl) (fun _ _ _ h => h) (Or.inl ⟨by kernel_rfl, ?_⟩) (by assumption) ?_
    rotate_left
    · intro w hSw
      go_simp
      try with_reducible rfl
    simp only [Act.put, List.setIfInBounds_toArray, List.set_cons_zero, List.set_cons_succ, List.getElem_toArray, List.getElem_cons_succ, List.getElem_cons_zero]
    refine wpAnyH_done (by kernel_rfl) ?_ _
    refine NoPanic.normal ?_
    go_wp2
    go_ret
    exact ⟨rfl, hHeld.2.2.2.2⟩
set_option maxRecDepth 100000 in
set_option maxHeartbeats 4000000 in
theorem prods_10 (i j : Int) (x y z px py s xy : Array Value) (hx : x.size = 16) (hx1 : x.all (·.oneCell') = true) (hy : y.size = 16) (hy1 : y.all (·.oneCell') = true) (hz : z.size = 16) (hz1 : z.all (·.oneCell') = true) (hs : s.size = 16) (hs1 : s.all (·.oneCell') = true) (x0 x1 z0 z1 lo hi : Int)
    (h1 : ∀ W, Calls Try.prog 11 #[.int .u8 39, .agg x, .agg z, .int .u8 i] W fun e W' => e = .returned (.agg px) ∧ Below W.heap.size W W')
    (h2 : ∀ W, Calls Try.prog 11 #[.int .u8 39, .agg y, .agg z, .int .u8 i] W fun e W' => e = .returned (.agg py) ∧ Below W.heap.size W W')
    (h3 : ∀ W, Calls Try.prog 11 #[.int .u8 36, .agg px, .agg py, .int .u8 0] W fun e W' => e = .returned (.agg s) ∧ Below W.heap.size W W')
    (h4 : ∀ W, Calls Try.prog 11 #[.int .u8 36, .agg x, .agg y, .int .u8 0] W fun e W' => e = .returned (.agg xy) ∧ Below W.heap.size W W')
    (h5 : ∀ W, Calls Try.prog 11 #[.int .u8 39, .agg xy, .agg z, .int .u8 i] W fun e W' => e = .returned (.agg s) ∧ Below W.heap.size W W')
    (h6 : ∀ W, Calls Try.prog 9 #[.agg x] W fun e W' => e = .returned (.tuple #[.int .u64 x0, .int .u64 x1]) ∧ Below W.heap.size W W')
    (h7 : ∀ W, Calls Try.prog 9 #[.agg z] W fun e W' => e = .returned (.tuple #[.int .u64 z0, .int .u64 z1]) ∧ Below W.heap.size W W')
    (h8 : ∀ W, Calls Try.prog 17 #[.int .u64 x1, .int .u64 z0] W fun e W' => e = .returned (.tuple #[.int .u64 lo, .int .u64 hi]) ∧ Below W.heap.size W W')
    (h9 : ∀ W, Calls Try.prog 9 #[.agg px] W fun e W' => e = .returned (.tuple #[.int .u64 lo, .int .u64 hi]) ∧ Below W.heap.size W W')
    (h10 : ∀ W, Calls Try.prog 11 #[.int .u8 39, .agg z, .agg x, .int .u8 j] W fun e W' => e = .returned (.agg px) ∧ Below W.heap.size W W')
    (h11 : ∀ W, Calls Try.prog 8 #[] W fun e W' => e = .returned (.bool true) ∧ Below W.heap.size W W')
    (ep : ∀ w, (Op.equalIn 10000 22 (.agg px) (.agg px)).run Try.prog w = .ok true w) (es : ∀ w, (Op.equalIn 10000 22 (.agg s) (.agg s)).run Try.prog w = .ok true w)
    (ej : bits .or .u8 (bits .and .u8 (i / 16) 1) (bits .and .u8 i 1 * 16 % 256) = j)
    (g1 : (bits .and .u8 i 1 == 1) = true) (g2 : (bits .and .u8 (i / 16) 1 == 1) = false) (w : World) :
    Calls Try.prog 5 #[.agg x, .agg y, .agg z, .int .u8 i] w fun e w' => e = .returned (.bool true) ∧ Below w.heap.size w w' := by
  have H1 := Lib.hid h1
  have H2 := Lib.hid h2
  have H3 := Lib.hid h3
  have H4 := Lib.hid h4
  have H5 := Lib.hid h5
  have H6 := Lib.hid h6
  have H7 := Lib.hid h7
  have H8 := Lib.hid h8
  have H9 := Lib.hid h9
  have H10 := Lib.hid h10
  have H11 := Lib.hid h11
  have EP := Lib.hid ep
  have ES := Lib.hid es
  have EJ := Lib.hid ej
  have G1 := Lib.hid g1
  have G2 := Lib.hid g2
  have hq1 := (((R16.new w x hx hx1).alloc (.cells y 22)).alloc (.cells z 22))
  have hq2 := (R16.new (w.alloc (.cells x 22)) y hy hy1).alloc (.cells z 22)
  have hq3 := R16.new ((w.alloc (.cells x 22)).alloc (.cells y 22)) z hz hz1
  have hB : Below w.heap.size w (((w.alloc (.cells x 22)).alloc (.cells y 22)).alloc (.cells z 22)) := (((Below.refl _ w).alloc (Nat.le_refl _) _).alloc (by simp) _).alloc (by simp; omega) _
  simp only [World.size_alloc] at hq2 hq3
  have HS : Hid (VS w x y z (((w.alloc (.cells x 22)).alloc (.cells y 22)).alloc (.cells z 22))) := Lib.hid ⟨hq1, hq2, hq3, hB⟩
  clear h1 h2 h3 h4 h5 h6 h7 h8 h9 h10 h11 ep es ej g1 g2 hq1 hq2 hq3 hB
  go_enter Try.func5, Try.ntmps5
  go_upto_region 1 with fail
  generalize World.alloc (World.alloc (World.alloc _ _) _) _ = W0 at *
  go_wp2_with fail
  refine' share (G := _) (HH := fun bs W => PV w x y z s bs W) (fun REST => _) _
  rotate_left
  · skip
    refine wp_region_noPanic ?_
    refine wp_region_held_drew (S := fun W => VS w x y z W) (by kernel_rfl) ?_ (fun hHeld => ?_)
    · exact HS.out.drew
    generalize World.drew _ = v at hHeld ⊢
    refine wpAnyH_take (i := 0) (v := ?_) rfl (by kernel_rfl) (by kernel_rfl) (by kernel_rfl) (fun _ _ _ h => h) (Or.inl ⟨by kernel_rfl, ?_⟩) (by assumption) ?_
    rotate_left
    · intro w hSw
      refine exec_load22 (x := .tmp 4) ?_ ?_ hSw.1
      · rfl
      · rfl
      try with_reducible rfl
    simp only [Act.put, List.setIfInBounds_toArray, List.set_cons_zero, List.set_cons_succ, List.getElem_toArray, List.getElem_cons_succ, List.getElem_cons_zero]
    refine wpAnyH_take (i := 1) (v := ?_) rfl (by kernel_rfl) (by kernel_rfl) (by kernel_rfl) (fun _ _ _ h => h) (Or.inl ⟨by kernel_rfl, ?_⟩) (by assumption) ?_
    rotate_left
    · intro w hSw
      refine exec_load22 (x := .tmp 6) ?_ ?_ hSw.2.2.1
      · rfl
      · rfl
      try with_reducible rfl
    simp only [Act.put, List.setIfInBounds_toArray, List.set_cons_zero, List.set_cons_succ, List.getElem_toArray, List.getElem_cons_succ, List.getElem_cons_zero]
    refine wpAnyH_take (i := 2) (v := ?_) rfl (by kernel_rfl) (by kernel_rfl) (by kernel_rfl) (fun _ _ _ h => h) (Or.inl ⟨by kernel_rfl, ?_⟩) (by assumption) ?_
    rotate_left
    · intro w hSw
      go_simp
      try with_reducible rfl
    simp only [Act.put, List.setIfInBounds_toArray, List.set_cons_zero, List.set_cons_succ, List.getElem_toArray, List.getElem_cons_succ, List.getElem_cons_zero]
    refine wpAnyH_take (i := 4) (v := ?_) rfl (by kernel_rfl) (by kernel_rfl) (by kernel_rfl) (fun _ _ _ h => h) (Or.inl ⟨by kernel_rfl, ?_⟩) (by assumption) ?_
    rotate_left
    · intro w hSw
      refine exec_load22 (x := .tmp 5) ?_ ?_ hSw.2.1
      · rfl
      · rfl
      try with_reducible rfl
    simp only [Act.put, List.setIfInBounds_toArray, List.set_cons_zero, List.set_cons_succ, List.getElem_toArray, List.getElem_cons_succ, List.getElem_cons_zero]
    refine wpAnyH_take (i := 5) (v := ?_) rfl (by kernel_rfl) (by kernel_rfl) (by kernel_rfl) (fun _ _ _ h => h) (Or.inl ⟨by kernel_rfl, ?_⟩) (by assumption) ?_
    rotate_left
    · intro w hSw
      refine exec_load22 (x := .tmp 6) ?_ ?_ hSw.2.2.1
      · rfl
      · rfl
      try with_reducible rfl
    simp only [Act.put, List.setIfInBounds_toArray, List.set_cons_zero, List.set_cons_succ, List.getElem_toArray, List.getElem_cons_succ, List.getElem_cons_zero]
    refine wpAnyH_take (i := 6) (v := ?_) rfl (by kernel_rfl) (by kernel_rfl) (by kernel_rfl) (fun _ _ _ h => h) (Or.inl ⟨by kernel_rfl, ?_⟩) (by assumption) ?_
    rotate_left
    · intro w hSw
      go_simp
      try with_reducible rfl
    simp only [Act.put, List.setIfInBounds_toArray, List.set_cons_zero, List.set_cons_succ, List.getElem_toArray, List.getElem_cons_succ, List.getElem_cons_zero]
    refine wpAnyH_ready (rs := [3, 9]) (by kernel_rfl) (by simp) ?_
    refine AllReadyH.cons rfl (fun K hK => ?_) (AllReadyH.cons rfl (fun K hK => ?_) AllReadyH.nil)
    · rw [if_pos (by kernel_rfl)]; go_simp; go_at_call 11; (with_reducible refine (H1.out _).mono ?_); rintro e vc ⟨rfl, hb1⟩
      refine hK.out _ _ (VS.below hHeld hb1) (fun hHeld2 => ?_)
      clear hK K hHeld hb1
      have hHeld := hHeld2
      clear hHeld2
      try simp only [Act.put, List.setIfInBounds_toArray, List.set_cons_zero, List.set_cons_succ, List.getElem_toArray, List.getElem_cons_succ, List.getElem_cons_zero]
      refine wpAnyH_ready (rs := [7, 9]) (by kernel_rfl) (by simp) ?_
      refine AllReadyH.cons rfl (fun K hK => ?_) (AllReadyH.cons rfl (fun K hK => ?_) AllReadyH.nil)
      · rw [if_pos (by kernel_rfl)]; go_simp; go_at_call 11; (with_reducible refine (H2.out _).mono ?_); rintro e vcc ⟨rfl, hb1⟩
        refine hK.out _ _ (VS.below hHeld hb1) (fun hHeld2 => ?_)
        clear hK K hHeld hb1
        have hHeld := hHeld2
        clear hHeld2
        try simp only [Act.put, List.setIfInBounds_toArray, List.set_cons_zero, List.set_cons_succ, List.getElem_toArray, List.getElem_cons_succ, List.getElem_cons_zero]
        refine wpAnyH_ready (rs := [8, 9]) (by kernel_rfl) (by simp) ?_
        refine AllReadyH.cons rfl (fun K hK => ?_) (AllReadyH.cons rfl (fun K hK => ?_) AllReadyH.nil)
        · rw [if_pos (by kernel_rfl)]; go_simp; go_at_call 11; (with_reducible refine (H3.out _).mono ?_); rintro e vccc ⟨rfl, hb1⟩
          refine hK.out _ _ (VS.below hHeld hb1) (fun hHeld2 => ?_)
          clear hK K hHeld hb1
          have hHeld := hHeld2
          clear hHeld2
          try simp only [Act.put, List.setIfInBounds_toArray, List.set_cons_zero, List.set_cons_succ, List.getElem_toArray, List.getElem_cons_succ, List.getElem_cons_zero]
          refine wpAnyH_ready (rs := [9]) (by kernel_rfl) (by simp) ?_
          refine AllReadyH.cons rfl (fun K hK => ?_) AllReadyH.nil
          rw [if_pos (by kernel_rfl)]
          obtain ⟨a1, hR9, hne⟩ := hHeld.alloc9
          go_simp
          refine hK.out _ _ a1 (fun hHeld2 => ?_)
          clear hK K hHeld a1
          have hHeld := hHeld2
          clear hHeld2
          generalize World.alloc _ _ = vccca at *
          generalize vccc.heap.size = bs at *
          try simp only [Act.put, List.setIfInBounds_toArray, List.set_cons_zero, List.set_cons_succ, List.getElem_toArray, List.getElem_cons_succ, List.getElem_cons_zero]
          refine wpAnyH_ready (rs := [10]) (by kernel_rfl) (by simp) ?_
          refine AllReadyH.cons rfl (fun K hK => ?_) AllReadyH.nil
          rw [if_pos (by kernel_rfl)]
          have hP := Lib.hid (PV.of hHeld hR9 hne hs hs1)
          refine wp_store22 (x := .tmp 9) (y := .tmp 27) ?_ ?_ ?_ hR9 hs hs1 ?_
          · rfl
          · rfl
          · rfl
          refine hK.out _ _ ⟨hP.out.1, hP.out.2.1, hP.out.2.2.1, hP.out.2.2.2.2⟩ (fun hHeld2 => ?_)
          clear hK K hHeld hHeld2 hR9
          try simp only [Act.put, List.setIfInBounds_toArray, List.set_cons_zero, List.set_cons_succ, List.getElem_toArray, List.getElem_cons_succ, List.getElem_cons_zero]
          refine wpAnyH_done (by kernel_rfl) ?_ _
          refine NoPanic.normal ?_
          generalize World.setRow _ _ _ = W9 at hP ⊢
          exact REST _ _ hP.out
        · rw [if_pos (by kernel_rfl)]
          obtain ⟨a1, hR9, hne⟩ := hHeld.alloc9
          go_simp
          refine hK.out _ _ a1 (fun hHeld2 => ?_)
          clear hK K hHeld a1
          have hHeld := hHeld2
          clear hHeld2
          generalize World.alloc _ _ = vcca at *
          generalize vcc.heap.size = bs at *
          try simp only [Act.put, List.setIfInBounds_toArray, List.set_cons_zero, List.set_cons_succ, List.getElem_toArray, List.getElem_cons_succ, List.getElem_cons_zero]
          refine wpAnyH_ready (rs := [8]) (by kernel_rfl) (by simp) ?_
          refine AllReadyH.cons rfl (fun K hK => ?_) AllReadyH.nil
          rw [if_pos (by kernel_rfl)]; go_simp; go_at_call 11; (with_reducible refine (H3.out _).mono ?_); rintro e vccac ⟨rfl, hb1⟩
          have hR9 := hR9.keep hb1
          refine hK.out _ _ (VS.below hHeld hb1) (fun hHeld2 => ?_)
          clear hK K hHeld hb1
          have hHeld := hHeld2
          clear hHeld2
          try simp only [Act.put, List.setIfInBounds_toArray, List.set_cons_zero, List.set_cons_succ, List.getElem_toArray, List.getElem_cons_succ, List.getElem_cons_zero]
          refine wpAnyH_ready (rs := [10]) (by kernel_rfl) (by simp) ?_
          refine AllReadyH.cons rfl (fun K hK => ?_) AllReadyH.nil
          rw [if_pos (by kernel_rfl)]
          have hP := Lib.hid (PV.of hHeld hR9 hne hs hs1)
          refine wp_store22 (x := .tmp 9) (y := .tmp 27) ?_ ?_ ?_ hR9 hs hs1 ?_
          · rfl
          · rfl
          · rfl
          refine hK.out _ _ ⟨hP.out.1, hP.out.2.1, hP.out.2.2.1, hP.out.2.2.2.2⟩ (fun hHeld2 => ?_)
          clear hK K hHeld hHeld2 hR9
          try simp only [Act.put, List.setIfInBounds_toArray, List.set_cons_zero, List.set_cons_succ, List.getElem_toArray, List.getElem_cons_succ, List.getElem_cons_zero]
          refine wpAnyH_done (by kernel_rfl) ?_ _
          refine NoPanic.normal ?_
          generalize World.setRow _ _ _ = W9 at hP ⊢
          exact REST _ _ hP.out
      · rw [if_pos (by kernel_rfl)]
        obtain ⟨a1, hR9, hne⟩ := hHeld.alloc9
        go_simp
        refine hK.out _ _ a1 (fun hHeld2 => ?_)
        clear hK K hHeld a1
        have hHeld := hHeld2
        clear hHeld2
        generalize World.alloc _ _ = vca at *
        generalize vc.heap.size = bs at *
        try simp only [Act.put, List.setIfInBounds_toArray, List.set_cons_zero, List.set_cons_succ, List.getElem_toArray, List.getElem_cons_succ, List.getElem_cons_zero]
        refine wpAnyH_ready (rs := [7]) (by kernel_rfl) (by simp) ?_
        refine AllReadyH.cons rfl (fun K hK => ?_) AllReadyH.nil
        rw [if_pos (by kernel_rfl)]; go_simp; go_at_call 11; (with_reducible refine (H2.out _).mono ?_); rintro e vcac ⟨rfl, hb1⟩
        have hR9 := hR9.keep hb1
        refine hK.out _ _ (VS.below hHeld hb1) (fun hHeld2 => ?_)
        clear hK K hHeld hb1
        have hHeld := hHeld2
        clear hHeld2
        try simp only [Act.put, List.setIfInBounds_toArray, List.set_cons_zero, List.set_cons_succ, List.getElem_toArray, List.getElem_cons_succ, List.getElem_cons_zero]
        refine wpAnyH_ready (rs := [8]) (by kernel_rfl) (by simp) ?_
        refine AllReadyH.cons rfl (fun K hK => ?_) AllReadyH.nil
        rw [if_pos (by kernel_rfl)]; go_simp; go_at_call 11; (with_reducible refine (H3.out _).mono ?_); rintro e vcacc ⟨rfl, hb1⟩
        have hR9 := hR9.keep hb1
        refine hK.out _ _ (VS.below hHeld hb1) (fun hHeld2 => ?_)
        clear hK K hHeld hb1
        have hHeld := hHeld2
        clear hHeld2
        try simp only [Act.put, List.setIfInBounds_toArray, List.set_cons_zero, List.set_cons_succ, List.getElem_toArray, List.getElem_cons_succ, List.getElem_cons_zero]
        refine wpAnyH_ready (rs := [10]) (by kernel_rfl) (by simp) ?_
        refine AllReadyH.cons rfl (fun K hK => ?_) AllReadyH.nil
        rw [if_pos (by kernel_rfl)]
        have hP := Lib.hid (PV.of hHeld hR9 hne hs hs1)
        refine wp_store22 (x := .tmp 9) (y := .tmp 27) ?_ ?_ ?_ hR9 hs hs1 ?_
        · rfl
        · rfl
        · rfl
        refine hK.out _ _ ⟨hP.out.1, hP.out.2.1, hP.out.2.2.1, hP.out.2.2.2.2⟩ (fun hHeld2 => ?_)
        clear hK K hHeld hHeld2 hR9
        try simp only [Act.put, List.setIfInBounds_toArray, List.set_cons_zero, List.set_cons_succ, List.getElem_toArray, List.getElem_cons_succ, List.getElem_cons_zero]
        refine wpAnyH_done (by kernel_rfl) ?_ _
        refine NoPanic.normal ?_
        generalize World.setRow _ _ _ = W9 at hP ⊢
        exact REST _ _ hP.out
    · rw [if_pos (by kernel_rfl)]
      obtain ⟨a1, hR9, hne⟩ := hHeld.alloc9
      go_simp
      refine hK.out _ _ a1 (fun hHeld2 => ?_)
      clear hK K hHeld a1
      have hHeld := hHeld2
      clear hHeld2
      generalize World.alloc _ _ = va at *
      generalize v.heap.size = bs at *
      try simp only [Act.put, List.setIfInBounds_toArray, List.set_cons_zero, List.set_cons_succ, List.getElem_toArray, List.getElem_cons_succ, List.getElem_cons_zero]
      refine wpAnyH_ready (rs := [3]) (by kernel_rfl) (by simp) ?_
      refine AllReadyH.cons rfl (fun K hK => ?_) AllReadyH.nil
      rw [if_pos (by kernel_rfl)]; go_simp; go_at_call 11; (with_reducible refine (H1.out _).mono ?_); rintro e vac ⟨rfl, hb1⟩
      have hR9 := hR9.keep hb1
      refine hK.out _ _ (VS.below hHeld hb1) (fun hHeld2 => ?_)
      clear hK K hHeld hb1
      have hHeld := hHeld2
      clear hHeld2
      try simp only [Act.put, List.setIfInBounds_toArray, List.set_cons_zero, List.set_cons_succ, List.getElem_toArray, List.getElem_cons_succ, List.getElem_cons_zero]
      refine wpAnyH_ready (rs := [7]) (by kernel_rfl) (by simp) ?_
      refine AllReadyH.cons rfl (fun K hK => ?_) AllReadyH.nil
      rw [if_pos (by kernel_rfl)]; go_simp; go_at_call 11; (with_reducible refine (H2.out _).mono ?_); rintro e vacc ⟨rfl, hb1⟩
      have hR9 := hR9.keep hb1
      refine hK.out _ _ (VS.below hHeld hb1) (fun hHeld2 => ?_)
      clear hK K hHeld hb1
      have hHeld := hHeld2
      clear hHeld2
      try simp only [Act.put, List.setIfInBounds_toArray, List.set_cons_zero, List.set_cons_succ, List.getElem_toArray, List.getElem_cons_succ, List.getElem_cons_zero]
      refine wpAnyH_ready (rs := [8]) (by kernel_rfl) (by simp) ?_
      refine AllReadyH.cons rfl (fun K hK => ?_) AllReadyH.nil
      rw [if_pos (by kernel_rfl)]; go_simp; go_at_call 11; (with_reducible refine (H3.out _).mono ?_); rintro e vaccc ⟨rfl, hb1⟩
      have hR9 := hR9.keep hb1
      refine hK.out _ _ (VS.below hHeld hb1) (fun hHeld2 => ?_)
      clear hK K hHeld hb1
      have hHeld := hHeld2
      clear hHeld2
      try simp only [Act.put, List.setIfInBounds_toArray, List.set_cons_zero, List.set_cons_succ, List.getElem_toArray, List.getElem_cons_succ, List.getElem_cons_zero]
      refine wpAnyH_ready (rs := [10]) (by kernel_rfl) (by simp) ?_
      refine AllReadyH.cons rfl (fun K hK => ?_) AllReadyH.nil
      rw [if_pos (by kernel_rfl)]
      have hP := Lib.hid (PV.of hHeld hR9 hne hs hs1)
      refine wp_store22 (x := .tmp 9) (y := .tmp 27) ?_ ?_ ?_ hR9 hs hs1 ?_
      · rfl
      · rfl
      · rfl
      refine hK.out _ _ ⟨hP.out.1, hP.out.2.1, hP.out.2.2.1, hP.out.2.2.2.2⟩ (fun hHeld2 => ?_)
      clear hK K hHeld hHeld2 hR9
      try simp only [Act.put, List.setIfInBounds_toArray, List.set_cons_zero, List.set_cons_succ, List.getElem_toArray, List.getElem_cons_succ, List.getElem_cons_zero]
      refine wpAnyH_done (by kernel_rfl) ?_ _
      refine NoPanic.normal ?_
      generalize World.setRow _ _ _ = W9 at hP ⊢
      exact REST _ _ hP.out
  · rintro bs W9 hP
    have HS := Lib.hid hP
    clear hP
    go_wp2_with fail
    refine wp_region_noPanic ?_
    refine wp_region_held_drew (S := fun W => PV w x y z s bs W) (by kernel_rfl) ?_ (fun hHeld => ?_)
    · exact HS.out.drew
    generalize World.drew _ = W5 at hHeld ⊢
    clear HS
    refine wpAnyH_take (i := 0) (v := ?_) rfl (by kernel_rfl) (by kernel_rfl) (by kernel_rfl) (fun _ _ _ h => h) (Or.inl ⟨by kernel_rfl, ?_⟩) (by assumption) ?_
    rotate_left
    · intro w hSw
      refine exec_load22 (x := .tmp 4) ?_ ?_ hSw.1
      · rfl
      · rfl
      try with_reducible rfl
    simp only [Act.put, List.setIfInBounds_toArray, List.set_cons_zero, List.set_cons_succ, List.getElem_toArray, List.getElem_cons_succ, List.getElem_cons_zero]
    refine wpAnyH_take (i := 1) (v := ?_) rfl (by kernel_rfl) (by kernel_rfl) (by kernel_rfl) (fun _ _ _ h => h) (Or.inl ⟨by kernel_rfl, ?_⟩) (by assumption) ?_
    rotate_left
    · intro w hSw
      refine exec_load22 (x := .tmp 5) ?_ ?_ hSw.2.1
      · rfl
      · rfl
      try with_reducible rfl
    simp only [Act.put, List.setIfInBounds_toArray, List.set_cons_zero, List.set_cons_succ, List.getElem_toArray, List.getElem_cons_succ, List.getElem_cons_zero]
    refine wpAnyH_take (i := 3) (v := ?_) rfl (by kernel_rfl) (by kernel_rfl) (by kernel_rfl) (fun _ _ _ h => h) (Or.inl ⟨by kernel_rfl, ?_⟩) (by assumption) ?_
    rotate_left
    · intro w hSw
      refine exec_load22 (x := .tmp 6) ?_ ?_ hSw.2.2.1
      · rfl
      · rfl
      try with_reducible rfl
    simp only [Act.put, List.setIfInBounds_toArray, List.set_cons_zero, List.set_cons_succ, List.getElem_toArray, List.getElem_cons_succ, List.getElem_cons_zero]
    refine wpAnyH_take (i := 4) (v := ?_) rfl (by kernel_rfl) (by kernel_rfl) (by kernel_rfl) (fun _ _ _ h => h) (Or.inl ⟨by kernel_rfl, ?_⟩) (by assumption) ?_
    rotate_left
    · intro w hSw
      go_simp
      try with_reducible rfl
    simp only [Act.put, List.setIfInBounds_toArray, List.set_cons_zero, List.set_cons_succ, List.getElem_toArray, List.getElem_cons_succ, List.getElem_cons_zero]
    refine wpAnyH_take (i := 6) (v := ?_) rfl (by kernel_rfl) (by kernel_rfl) (by kernel_rfl) (fun _ _ _ h => h) (Or.inl ⟨by kernel_rfl, ?_⟩) (by assumption) ?_
    rotate_left
    · intro w hSw
      refine exec_load22 (x := .tmp 9) ?_ ?_ hSw.2.2.2.1
      · rfl
      · rfl
      try with_reducible rfl
    simp only [Act.put, List.setIfInBounds_toArray, List.set_cons_zero, List.set_cons_succ, List.getElem_toArray, List.getElem_cons_succ, List.getElem_cons_zero]
    refine wpAnyH_ready (rs := [2]) (by kernel_rfl) (by simp) ?_
    refine AllReadyH.cons rfl (fun K hK => ?_) AllReadyH.nil
    rw [if_pos (by kernel_rfl)]; go_simp; go_at_call 11; (with_reducible refine (H4.out _).mono ?_); rintro e w1 ⟨rfl, hb1⟩
    refine hK.out _ _ (PV.below hHeld hb1) (fun hHeld2 => ?_)
    clear hK K hHeld hb1
    have hHeld := hHeld2
    clear hHeld2
    try simp only [Act.put, List.setIfInBounds_toArray, List.set_cons_zero, List.set_cons_succ, List.getElem_toArray, List.getElem_cons_succ, List.getElem_cons_zero]
    refine wpAnyH_ready (rs := [5]) (by kernel_rfl) (by simp) ?_
    refine AllReadyH.cons rfl (fun K hK => ?_) AllReadyH.nil
    rw [if_pos (by kernel_rfl)]; go_simp; go_at_call 11; (with_reducible refine (H5.out _).mono ?_); rintro e w1 ⟨rfl, hb1⟩
    refine hK.out _ _ (PV.below hHeld hb1) (fun hHeld2 => ?_)
    clear hK K hHeld hb1
    have hHeld := hHeld2
    clear hHeld2
    try simp only [Act.put, List.setIfInBounds_toArray, List.set_cons_zero, List.set_cons_succ, List.getElem_toArray, List.getElem_cons_succ, List.getElem_cons_zero]
    refine wpAnyH_take (i := 7) (v := ?_) rfl (by kernel_rfl) (by kernel_rfl) (by kernel_rfl) (fun _ _ _ h => h) (Or.inl ⟨by kernel_rfl, ?_⟩) (by assumption) ?_
    rotate_left
    · intro w hSw
      have q := ES.out
      go_simp
      try with_reducible rfl
    simp only [Act.put, List.setIfInBounds_toArray, List.set_cons_zero, List.set_cons_succ, List.getElem_toArray, List.getElem_cons_succ, List.getElem_cons_zero]
    refine wpAnyH_done (by kernel_rfl) ?_ _
    refine NoPanic.normal ?_
    have HS0 := Lib.hid hHeld
    clear hHeld
    go_wp2_with (first | (refine wpList_load22 rfl rfl rfl HS0.out.1 ?_) | (refine wpList_load22 rfl rfl rfl HS0.out.2.2.1 ?_))
    rw [EJ.out]
    go_at_call 9
    with_reducible refine (H6.out _).mono ?_
    rintro e w1 ⟨rfl, hb1⟩
    have HS1 := Lib.hid (HS0.out.below hb1)
    clear HS0 hb1
    have g1 := G1.out
    go_wp2_with (first | (refine wpList_load22 rfl rfl rfl HS1.out.1 ?_) | (refine wpList_load22 rfl rfl rfl HS1.out.2.2.1 ?_))
    go_at_call 9
    with_reducible refine (H7.out _).mono ?_
    rintro e w2 ⟨rfl, hb1⟩
    have HS2 := Lib.hid (HS1.out.below hb1)
    clear HS1 hb1
    have g2 := G2.out
    go_wp2_with (first | (refine wpList_load22 rfl rfl rfl HS2.out.1 ?_) | (refine wpList_load22 rfl rfl rfl HS2.out.2.2.1 ?_))
    go_at_call 17
    with_reducible refine (H8.out _).mono ?_
    rintro e w3 ⟨rfl, hb1⟩
    have HS3 := Lib.hid (HS2.out.below hb1)
    clear HS2 hb1
    go_wp2_with (first | (refine wpList_load22 rfl rfl rfl HS3.out.1 ?_) | (refine wpList_load22 rfl rfl rfl HS3.out.2.2.1 ?_))
    go_at_call 11
    with_reducible refine (H1.out _).mono ?_
    rintro e w4 ⟨rfl, hb1⟩
    have HS4 := Lib.hid (HS3.out.below hb1)
    clear HS3 hb1
    go_wp2_with (first | (refine wpList_load22 rfl rfl rfl HS4.out.1 ?_) | (refine wpList_load22 rfl rfl rfl HS4.out.2.2.1 ?_))
    go_at_call 9
    with_reducible refine (H9.out _).mono ?_
    rintro e w5 ⟨rfl, hb1⟩
    have HS5 := Lib.hid (HS4.out.below hb1)
    clear HS4 hb1
    go_wp2_with fail
    refine wp_region_noPanic ?_
    refine wp_region_held_drew (S := fun W => PV w x y z s bs W) (by kernel_rfl) ?_ (fun hHeld => ?_)
    · exact HS5.out.drew
    generalize World.drew _ = W6 at hHeld ⊢
    clear HS5
    refine wpAnyH_take (i := 0) (v := ?_) rfl (by kernel_rfl) (by kernel_rfl) (by kernel_rfl) (fun _ _ _ h => h) (Or.inl ⟨by kernel_rfl, ?_⟩) (by assumption) ?_
    rotate_left
    · intro w hSw
      refine exec_load22 (x := .tmp 6) ?_ ?_ hSw.2.2.1
      · rfl
      · rfl
      try with_reducible rfl
    simp only [Act.put, List.setIfInBounds_toArray, List.set_cons_zero, List.set_cons_succ, List.getElem_toArray, List.getElem_cons_succ, List.getElem_cons_zero]
    refine wpAnyH_take (i := 1) (v := ?_) rfl (by kernel_rfl) (by kernel_rfl) (by kernel_rfl) (fun _ _ _ h => h) (Or.inl ⟨by kernel_rfl, ?_⟩) (by assumption) ?_
    rotate_left
    · intro w hSw
      refine exec_load22 (x := .tmp 4) ?_ ?_ hSw.1
      · rfl
      · rfl
      try with_reducible rfl
    simp only [Act.put, List.setIfInBounds_toArray, List.set_cons_zero, List.set_cons_succ, List.getElem_toArray, List.getElem_cons_succ, List.getElem_cons_zero]
    refine wpAnyH_take (i := 2) (v := ?_) rfl (by kernel_rfl) (by kernel_rfl) (by kernel_rfl) (fun _ _ _ h => h) (Or.inl ⟨by kernel_rfl, ?_⟩) (by assumption) ?_
    rotate_left
    · intro w hSw
      go_simp
      try with_reducible rfl
    simp only [Act.put, List.setIfInBounds_toArray, List.set_cons_zero, List.set_cons_succ, List.getElem_toArray, List.getElem_cons_succ, List.getElem_cons_zero]
    refine wpAnyH_take (i := 4) (v := ?_) rfl (by kernel_rfl) (by kernel_rfl) (by kernel_rfl) (fun _ _ _ h => h) (Or.inl ⟨by kernel_rfl, ?_⟩) (by assumption) ?_
    rotate_left
    · intro w hSw
      refine exec_load22 (x := .tmp 4) ?_ ?_ hSw.1
      · rfl
      · rfl
      try with_reducible rfl
    simp only [Act.put, List.setIfInBounds_toArray, List.set_cons_zero, List.set_cons_succ, List.getElem_toArray, List.getElem_cons_succ, List.getElem_cons_zero]
    refine wpAnyH_take (i := 5) (v := ?_) rfl (by kernel_rfl) (by kernel_rfl) (by kernel_rfl) (fun _ _ _ h => h) (Or.inl ⟨by kernel_rfl, ?_⟩) (by assumption) ?_
    rotate_left
    · intro w hSw
      refine exec_load22 (x := .tmp 6) ?_ ?_ hSw.2.2.1
      · rfl
      · rfl
      try with_reducible rfl
    simp only [Act.put, List.setIfInBounds_toArray, List.set_cons_zero, List.set_cons_succ, List.getElem_toArray, List.getElem_cons_succ, List.getElem_cons_zero]
    refine wpAnyH_take (i := 6) (v := ?_) rfl (by kernel_rfl) (by kernel_rfl) (by kernel_rfl) (fun _ _ _ h => h) (Or.inl ⟨by kernel_rfl, ?_⟩) (by assumption) ?_
    rotate_left
    · intro w hSw
      go_simp
      try with_reducible rfl
    simp only [Act.put, List.setIfInBounds_toArray, List.set_cons_zero, List.set_cons_succ, List.getElem_toArray, List.getElem_cons_succ, List.getElem_cons_zero]
    refine wpAnyH_ready (rs := [3]) (by kernel_rfl) (by simp) ?_
    refine AllReadyH.cons rfl (fun K hK => ?_) AllReadyH.nil
    rw [if_pos (by kernel_rfl)]; go_simp; go_at_call 11; (with_reducible refine (H10.out _).mono ?_); rintro e w1 ⟨rfl, hb1⟩
    refine hK.out _ _ (PV.below hHeld hb1) (fun hHeld2 => ?_)
    clear hK K hHeld hb1
    have hHeld := hHeld2
    clear hHeld2
    try simp only [Act.put, List.setIfInBounds_toArray, List.set_cons_zero, List.set_cons_succ, List.getElem_toArray, List.getElem_cons_succ, List.getElem_cons_zero]
    refine wpAnyH_ready (rs := [7]) (by kernel_rfl) (by simp) ?_
    refine AllReadyH.cons rfl (fun K hK => ?_) AllReadyH.nil
    rw [if_pos (by kernel_rfl)]; go_simp; go_at_call 11; (with_reducible refine (H1.out _).mono ?_); rintro e w1 ⟨rfl, hb1⟩
    refine hK.out _ _ (PV.below hHeld hb1) (fun hHeld2 => ?_)
    clear hK K hHeld hb1
    have hHeld := hHeld2
    clear hHeld2
    try simp only [Act.put, List.setIfInBounds_toArray, List.set_cons_zero, List.set_cons_succ, List.getElem_toArray, List.getElem_cons_succ, List.getElem_cons_zero]
    refine wpAnyH_take (i := 8) (v := ?_) rfl (by kernel_rfl) (by kernel_rfl) (by kernel_rfl) (fun _ _ _ h => h) (Or.inl ⟨by kernel_rfl, ?_⟩) (by assumption) ?_
    rotate_left
    · intro w hSw
      have q := EP.out
      go_simp
      try with_reducible rfl
    simp only [Act.put, List.setIfInBounds_toArray, List.set_cons_zero, List.set_cons_succ, List.getElem_toArray, List.getElem_cons_succ, List.getElem_cons_zero]
    refine wpAnyH_take (i := 9) (v := ?_) rfl (by kernel_rfl) (by kernel_rfl) (by kernel_rfl) (fun _ _ _ h => h) (Or.inl ⟨by kernel_rfl, ?_⟩) (by assumption) ?_
    rotate_left
    · intro w hSw
      go_simp
      try with_reducible rfl
    simp only [Act.put, List.setIfInBounds_toArray, List.set_cons_zero, List.set_cons_succ, List.getElem_toArray, List.getElem_cons_succ, List.getElem_cons_zero]
    refine wpAnyH_take (i := 10) (v := ?_) rfl (by kernel_rfl) (by kernel_rfl) (by kernel_rfl) (fun _ _ _ h => h) (Or.inl ⟨by kernel_rfl, ?_⟩) (by assumption) ?_
    rotate_left
    · intro w hSw
      go_simp
      try with_reducible rfl
    simp only [Act.put, List.setIfInBounds_toArray, List.set_cons_zero, List.set_cons_succ, List.getElem_toArray, List.getElem_cons_succ, List.getElem_cons_zero]
    refine wpAnyH_take (i := 11) (v := ?_) rfl (by kernel_rfl) (by kernel_rfl) (by kernel_rfl) (fun _ _ _ h => h) (Or.inl ⟨by kernel_rfl, ?_⟩) (by assumption) ?_
    rotate_left
    · intro w hSw
      go_simp
      try with_reducible rfl
    simp only [Act.put, List.setIfInBounds_toArray, List.set_cons_zero, List.set_cons_succ, List.getElem_toArray, List.getElem_cons_succ, List.getElem_cons_zero]
    refine wpAnyH_take (i := 12) (v := ?_) rfl (by kernel_rfl) (by kernel_rfl) (by kernel_rfl) (fun _ _ _ h => h) (Or.inl ⟨by kernel_rfl, ?_⟩) (by assumption) ?_
    rotate_left
    · intro w hSw
      go_simp
      try with_reducible rfl
    simp only [Act.put, List.setIfInBounds_toArray, List.set_cons_zero, List.set_cons_succ, List.getElem_toArray, List.getElem_cons_succ, List.getElem_cons_zero]
    refine wpAnyH_take (i := 13) (v := ?_) rfl (by kernel_rfl) (by kernel_rfl) (by kernel_rfl) (fun _ _ _ h => h) (Or.inl ⟨by kernel_rfl, ?_⟩) (by assumption) ?_
    rotate_left
    · intro w hSw
      go_simp
      try with_reducible rfl
    simp only [Act.put, List.setIfInBounds_toArray, List.set_cons_zero, List.set_cons_succ, List.getElem_toArray, List.getElem_cons_succ, List.getElem_cons_zero]
    refine wpAnyH_take (i := 14) (v := ?_) rfl (by kernel_rfl) (by kernel_rfl) (by kernel_rfl) (fun _ _ _ h => h) (Or.inl ⟨by kernel_rfl, ?_⟩) (by assumption) ?_
    rotate_left
    · intro w hSw
      go_simp
      try with_reducible rfl
    simp only [Act.put, List.setIfInBounds_toArray, List.set_cons_zero, List.set_cons_succ, List.getElem_toArray, List.getElem_cons_succ, List.getElem_cons_zero]
    refine wpAnyH_take (i := 15) (v := ?_) rfl (by kernel_rfl) (by kernel_rfl) (by kernel_rfl) (fun _ _ _ h => h) (Or.inl ⟨by kernel_rfl, ?_⟩) (by assumption) ?_
    rotate_left
    · intro w hSw
      go_simp
      try with_reducible rfl
    simp only [Act.put, List.setIfInBounds_toArray, List.set_cons_zero, List.set_cons_succ, List.getElem_toArray, List.getElem_cons_succ, List.getElem_cons_zero]
    refine wpAnyH_take (i := 16) (v := ?_) rfl (by kernel_rfl) (by kernel_rfl) (by kernel_rfl) (fun _ _ _ h => h) (Or.inl ⟨by kernel_rfl, ?_⟩) (by assumption) ?_
    rotate_left
    · intro w hSw
      go_simp
      try with_reducible rfl
    simp only [Act.put, List.setIfInBounds_toArray, List.set_cons_zero, List.set_cons_succ, List.getElem_toArray, List.getElem_cons_succ, List.getElem_cons_zero]
    refine wpAnyH_take (i := 17) (v := ?_) rfl (by kernel_rfl) (by kernel_rfl) (by kernel_rfl) (fun _ _ _ h => h) (Or.inl ⟨by kernel_rfl, ?_⟩) (by assumption) ?_
    rotate_left
    · intro w hSw
      go_simp
      try with_reducible rfl
    simp only [Act.put, List.setIfInBounds_toArray, List.set_cons_zero, List.set_cons_succ, List.getElem_toArray, List.getElem_cons_succ, List.getElem_cons_zero]
    refine wpAnyH_take (i := 18) (v := ?_) rfl (by kernel_rfl) (by kernel_rfl) (by kernel_rfl) (fun _ _ _ h => h) (Or.inl ⟨by kernel_rfl, ?_⟩) (by assumption) ?_
    rotate_left
    · intro w hSw
      go_simp
      try with_reducible rfl
    simp only [Act.put, List.setIfInBounds_toArray, List.set_cons_zero, List.set_cons_succ, List.getElem_toArray, List.getElem_cons_succ, List.getElem_cons_zero]
    refine wpAnyH_take (i := 19) (v := ?_) rfl (by kernel_rfl) (by kernel_rfl) (by kernel_rfl) (fun _ _ _ h => h) (Or.inl ⟨by kernel_rfl, ?_⟩) (by assumption) ?_
    rotate_left
    · intro w hSw
      go_simp
      try with_reducible rfl
    simp only [Act.put, List.setIfInBounds_toArray, List.set_cons_zero, List.set_cons_succ, List.getElem_toArray, List.getElem_cons_succ, List.getElem_cons_zero]
    refine wpAnyH_ready (rs := [20]) (by kernel_rfl) (by simp) ?_
    refine AllReadyH.cons rfl (fun K hK => ?_) AllReadyH.nil
    rw [if_pos (by kernel_rfl)]; go_simp; go_at_call 8; (with_reducible refine (H11.out _).mono ?_); rintro e w1 ⟨rfl, hb1⟩
    refine hK.out _ _ (PV.below hHeld hb1) (fun hHeld2 => ?_)
    clear hK K hHeld hb1
    have hHeld := hHeld2
    clear hHeld2
    try simp only [Act.put, List.setIfInBounds_toArray, List.set_cons_zero, List.set_cons_succ, List.getElem_toArray, List.getElem_cons_succ, List.getElem_cons_zero]
    refine wpAnyH_take (i := 21) (v := ?_) rfl (by kernel_rfl) (by kernel_rfl) (by kernel_rfl) (fun _ _ _ h => h) (Or.inl ⟨by kernel_rfl, ?_⟩) (by assumption) ?_
    rotate_left
    · intro w hSw
      go_simp
      try with_reducible rfl
    simp only [Act.put, List.setIfInBounds_toArray, List.set_cons_zero, List.set_cons_succ, List.getElem_toArray, List.getElem_cons_succ, List.getElem_cons_zero]
    refine wpAnyH_take (i := 22) (v := ?_) rfl (by kernel_rfl) (by kernel_rfl) (by kernel_rfl) (fun _ _ _ h => h) (Or.inl ⟨by kernel_rfl, ?_⟩) (by assumption) ?_
    rotate_left
    · intro w hSw
      go_simp
      try with_reducible rfl
    simp only [Act.put, List.setIfInBounds_toArray, List.set_cons_zero, List.set_cons_succ, List.getElem_toArray, List.getElem_cons_succ, List.getElem_cons_zero]
    refine wpAnyH_done (by kernel_rfl) ?_ _
    refine NoPanic.normal ?_
    go_wp2
    go_ret
    exact ⟨rfl, hHeld.2.2.2.2⟩
set_option maxRecDepth 100000 in
set_option maxHeartbeats 4000000 in
theorem prods_11 (i j : Int) (x y z px py s xy : Array Value) (hx : x.size = 16) (hx1 : x.all (·.oneCell') = true) (hy : y.size = 16) (hy1 : y.all (·.oneCell') = true) (hz : z.size = 16) (hz1 : z.all (·.oneCell') = true) (hs : s.size = 16) (hs1 : s.all (·.oneCell') = true) (x0 x1 z0 z1 lo hi : Int)
    (h1 : ∀ W, Calls Try.prog 11 #[.int .u8 39, .agg x, .agg z, .int .u8 i] W fun e W' => e = .returned (.agg px) ∧ Below W.heap.size W W')
    (h2 : ∀ W, Calls Try.prog 11 #[.int .u8 39, .agg y, .agg z, .int .u8 i] W fun e W' => e = .returned (.agg py) ∧ Below W.heap.size W W')
    (h3 : ∀ W, Calls Try.prog 11 #[.int .u8 36, .agg px, .agg py, .int .u8 0] W fun e W' => e = .returned (.agg s) ∧ Below W.heap.size W W')
    (h4 : ∀ W, Calls Try.prog 11 #[.int .u8 36, .agg x, .agg y, .int .u8 0] W fun e W' => e = .returned (.agg xy) ∧ Below W.heap.size W W')
    (h5 : ∀ W, Calls Try.prog 11 #[.int .u8 39, .agg xy, .agg z, .int .u8 i] W fun e W' => e = .returned (.agg s) ∧ Below W.heap.size W W')
    (h6 : ∀ W, Calls Try.prog 9 #[.agg x] W fun e W' => e = .returned (.tuple #[.int .u64 x0, .int .u64 x1]) ∧ Below W.heap.size W W')
    (h7 : ∀ W, Calls Try.prog 9 #[.agg z] W fun e W' => e = .returned (.tuple #[.int .u64 z0, .int .u64 z1]) ∧ Below W.heap.size W W')
    (h8 : ∀ W, Calls Try.prog 17 #[.int .u64 x1, .int .u64 z1] W fun e W' => e = .returned (.tuple #[.int .u64 lo, .int .u64 hi]) ∧ Below W.heap.size W W')
    (h9 : ∀ W, Calls Try.prog 9 #[.agg px] W fun e W' => e = .returned (.tuple #[.int .u64 lo, .int .u64 hi]) ∧ Below W.heap.size W W')
    (h10 : ∀ W, Calls Try.prog 11 #[.int .u8 39, .agg z, .agg x, .int .u8 j] W fun e W' => e = .returned (.agg px) ∧ Below W.heap.size W W')
    (h11 : ∀ W, Calls Try.prog 8 #[] W fun e W' => e = .returned (.bool true) ∧ Below W.heap.size W W')
    (ep : ∀ w, (Op.equalIn 10000 22 (.agg px) (.agg px)).run Try.prog w = .ok true w) (es : ∀ w, (Op.equalIn 10000 22 (.agg s) (.agg s)).run Try.prog w = .ok true w)
    (ej : bits .or .u8 (bits .and .u8 (i / 16) 1) (bits .and .u8 i 1 * 16 % 256) = j)
    (g1 : (bits .and .u8 i 1 == 1) = true) (g2 : (bits .and .u8 (i / 16) 1 == 1) = true) (w : World) :
    Calls Try.prog 5 #[.agg x, .agg y, .agg z, .int .u8 i] w fun e w' => e = .returned (.bool true) ∧ Below w.heap.size w w' := by
  have H1 := Lib.hid h1
  have H2 := Lib.hid h2
  have H3 := Lib.hid h3
  have H4 := Lib.hid h4
  have H5 := Lib.hid h5
  have H6 := Lib.hid h6
  have H7 := Lib.hid h7
  have H8 := Lib.hid h8
  have H9 := Lib.hid h9
  have H10 := Lib.hid h10
  have H11 := Lib.hid h11
  have EP := Lib.hid ep
  have ES := Lib.hid es
  have EJ := Lib.hid ej
  have G1 := Lib.hid g1
  have G2 := Lib.hid g2
  have hq1 := (((R16.new w x hx hx1).alloc (.cells y 22)).alloc (.cells z 22))
  have hq2 := (R16.new (w.alloc (.cells x 22)) y hy hy1).alloc (.cells z 22)
  have hq3 := R16.new ((w.alloc (.cells x 22)).alloc (.cells y 22)) z hz hz1
  have hB : Below w.heap.size w (((w.alloc (.cells x 22)).alloc (.cells y 22)).alloc (.cells z 22)) := (((Below.refl _ w).alloc (Nat.le_refl _) _).alloc (by simp) _).alloc (by simp; omega) _
  simp only [World.size_alloc] at hq2 hq3
  have HS : Hid (VS w x y z (((w.alloc (.cells x 22)).alloc (.cells y 22)).alloc (.cells z 22))) := Lib.hid ⟨hq1, hq2, hq3, hB⟩
  clear h1 h2 h3 h4 h5 h6 h7 h8 h9 h10 h11 ep es ej g1 g2 hq1 hq2 hq3 hB
  go_enter Try.func5, Try.ntmps5
  go_upto_region 1 with fail
  generalize World.alloc (World.alloc (World.alloc _ _) _) _ = W0 at *
  go_wp2_with fail
  refine' share (G := _) (HH := fun bs W => PV w x y z s bs W) (fun REST => _) _
  rotate_left
  · skip
    refine wp_region_noPanic ?_
    refine wp_region_held_drew (S := fun W => VS w x y z W) (by kernel_rfl) ?_ (fun hHeld => ?_)
    · exact HS.out.drew
    generalize World.drew _ = v at hHeld ⊢
    refine wpAnyH_take (i := 0) (v := ?_) rfl (by kernel_rfl) (by kernel_rfl) (by kernel_rfl) (fun _ _ _ h => h) (Or.inl ⟨by kernel_rfl, ?_⟩) (by assumption) ?_
    rotate_left
    · intro w hSw
      refine exec_load22 (x := .tmp 4) ?_ ?_ hSw.1
      · rfl
      · rfl
      try with_reducible rfl
    simp only [Act.put, List.setIfInBounds_toArray, List.set_cons_zero, List.set_cons_succ, List.getElem_toArray, List.getElem_cons_succ, List.getElem_cons_zero]
    refine wpAnyH_take (i := 1) (v := ?_) rfl (by kernel_rfl) (by kernel_rfl) (by kernel_rfl) (fun _ _ _ h => h) (Or.inl ⟨by kernel_rfl, ?_⟩) (by assumption) ?_
    rotate_left
    · intro w hSw
      refine exec_load22 (x := .tmp 6) ?_ ?_ hSw.2.2.1
      · rfl
      · rfl
      try with_reducible rfl
    simp only [Act.put, List.setIfInBounds_toArray, List.set_cons_zero, List.set_cons_succ, List.getElem_toArray, List.getElem_cons_succ, List.getElem_cons_zero]
    refine wpAnyH_take (i := 2) (v := ?_) rfl (by kernel_rfl) (by kernel_rfl) (by kernel_rfl) (fun _ _ _ h => h) (Or.inl ⟨by kernel_rfl, ?_⟩) (by assumption) ?_
    rotate_left
    · intro w hSw
      go_simp
      try with_reducible rfl
    simp only [Act.put, List.setIfInBounds_toArray, List.set_cons_zero, List.set_cons_succ, List.getElem_toArray, List.getElem_cons_succ, List.getElem_cons_zero]
    refine wpAnyH_take (i := 4) (v := ?_) rfl (by kernel_rfl) (by kernel_rfl) (by kernel_rfl) (fun _ _ _ h => h) (Or.inl ⟨by kernel_rfl, ?_⟩) (by assumption) ?_
    rotate_left
    · intro w hSw
      refine exec_load22 (x := .tmp 5) ?_ ?_ hSw.2.1
      · rfl
      · rfl
      try with_reducible rfl
    simp only [Act.put, List.setIfInBounds_toArray, List.set_cons_zero, List.set_cons_succ, List.getElem_toArray, List.getElem_cons_succ, List.getElem_cons_zero]
    refine wpAnyH_take (i := 5) (v := ?_) rfl (by kernel_rfl) (by kernel_rfl) (by kernel_rfl) (fun _ _ _ h => h) (Or.inl ⟨by kernel_rfl, ?_⟩) (by assumption) ?_
    rotate_left
    · intro w hSw
      refine exec_load22 (x := .tmp 6) ?_ ?_ hSw.2.2.1
      · rfl
      · rfl
      try with_reducible rfl
    simp only [Act.put, List.setIfInBounds_toArray, List.set_cons_zero, List.set_cons_succ, List.getElem_toArray, List.getElem_cons_succ, List.getElem_cons_zero]
    refine wpAnyH_take (i := 6) (v := ?_) rfl (by kernel_rfl) (by kernel_rfl) (by kernel_rfl) (fun _ _ _ h => h) (Or.inl ⟨by kernel_rfl, ?_⟩) (by assumption) ?_
    rotate_left
    · intro w hSw
      go_simp
      try with_reducible rfl
    simp only [Act.put, List.setIfInBounds_toArray, List.set_cons_zero, List.set_cons_succ, List.getElem_toArray, List.getElem_cons_succ, List.getElem_cons_zero]
    refine wpAnyH_ready (rs := [3, 9]) (by kernel_rfl) (by simp) ?_
    refine AllReadyH.cons rfl (fun K hK => ?_) (AllReadyH.cons rfl (fun K hK => ?_) AllReadyH.nil)
    · rw [if_pos (by kernel_rfl)]; go_simp; go_at_call 11; (with_reducible refine (H1.out _).mono ?_); rintro e vc ⟨rfl, hb1⟩
      refine hK.out _ _ (VS.below hHeld hb1) (fun hHeld2 => ?_)
      clear hK K hHeld hb1
      have hHeld := hHeld2
      clear hHeld2
      try simp only [Act.put, List.setIfInBounds_toArray, List.set_cons_zero, List.set_cons_succ, List.getElem_toArray, List.getElem_cons_succ, List.getElem_cons_zero]
      refine wpAnyH_ready (rs := [7, 9]) (by kernel_rfl) (by simp) ?_
      refine AllReadyH.cons rfl (fun K hK => ?_) (AllReadyH.cons rfl (fun K hK => ?_) AllReadyH.nil)
      · rw [if_pos (by kernel_rfl)]; go_simp; go_at_call 11; (with_reducible refine (H2.out _).mono ?_); rintro e vcc ⟨rfl, hb1⟩
        refine hK.out _ _ (VS.below hHeld hb1) (fun hHeld2 => ?_)
        clear hK K hHeld hb1
        have hHeld := hHeld2
        clear hHeld2
        try simp only [Act.put, List.setIfInBounds_toArray, List.set_cons_zero, List.set_cons_succ, List.getElem_toArray, List.getElem_cons_succ, List.getElem_cons_zero]
        refine wpAnyH_ready (rs := [8, 9]) (by kernel_rfl) (by simp) ?_
        refine AllReadyH.cons rfl (fun K hK => ?_) (AllReadyH.cons rfl (fun K hK => ?_) AllReadyH.nil)
        · rw [if_pos (by kernel_rfl)]; go_simp; go_at_call 11; (with_reducible refine (H3.out _).mono ?_); rintro e vccc ⟨rfl, hb1⟩
          refine hK.out _ _ (VS.below hHeld hb1) (fun hHeld2 => ?_)
          clear hK K hHeld hb1
          have hHeld := hHeld2
          clear hHeld2
          try simp only [Act.put, List.setIfInBounds_toArray, List.set_cons_zero, List.set_cons_succ, List.getElem_toArray, List.getElem_cons_succ, List.getElem_cons_zero]
          refine wpAnyH_ready (rs := [9]) (by kernel_rfl) (by simp) ?_
          refine AllReadyH.cons rfl (fun K hK => ?_) AllReadyH.nil
          rw [if_pos (by kernel_rfl)]
          obtain ⟨a1, hR9, hne⟩ := hHeld.alloc9
          go_simp
          refine hK.out _ _ a1 (fun hHeld2 => ?_)
          clear hK K hHeld a1
          have hHeld := hHeld2
          clear hHeld2
          generalize World.alloc _ _ = vccca at *
          generalize vccc.heap.size = bs at *
          try simp only [Act.put, List.setIfInBounds_toArray, List.set_cons_zero, List.set_cons_succ, List.getElem_toArray, List.getElem_cons_succ, List.getElem_cons_zero]
          refine wpAnyH_ready (rs := [10]) (by kernel_rfl) (by simp) ?_
          refine AllReadyH.cons rfl (fun K hK => ?_) AllReadyH.nil
          rw [if_pos (by kernel_rfl)]
          have hP := Lib.hid (PV.of hHeld hR9 hne hs hs1)
          refine wp_store22 (x := .tmp 9) (y := .tmp 27) ?_ ?_ ?_ hR9 hs hs1 ?_
          · rfl
          · rfl
          · rfl
          refine hK.out _ _ ⟨hP.out.1, hP.out.2.1, hP.out.2.2.1, hP.out.2.2.2.2⟩ (fun hHeld2 => ?_)
          clear hK K hHeld hHeld2 hR9
          try simp only [Act.put, List.setIfInBounds_toArray, List.set_cons_zero, List.set_cons_succ, List.getElem_toArray, List.getElem_cons_succ, List.getElem_cons_zero]
          refine wpAnyH_done (by kernel_rfl) ?_ _
          refine NoPanic.normal ?_
          generalize World.setRow _ _ _ = W9 at hP ⊢
          exact REST _ _ hP.out
        · rw [if_pos (by kernel_rfl)]
          obtain ⟨a1, hR9, hne⟩ := hHeld.alloc9
          go_simp
          refine hK.out _ _ a1 (fun hHeld2 => ?_)
          clear hK K hHeld a1
          have hHeld := hHeld2
          clear hHeld2
          generalize World.alloc _ _ = vcca at *
          generalize vcc.heap.size = bs at *
          try simp only [Act.put, List.setIfInBounds_toArray, List.set_cons_zero, List.set_cons_succ, List.getElem_toArray, List.getElem_cons_succ, List.getElem_cons_zero]
          refine wpAnyH_ready (rs := [8]) (by kernel_rfl) (by simp) ?_
          refine AllReadyH.cons rfl (fun K hK => ?_) AllReadyH.nil
          rw [if_pos (by kernel_rfl)]; go_simp; go_at_call 11; (with_reducible refine (H3.out _).mono ?_); rintro e vccac ⟨rfl, hb1⟩
          have hR9 := hR9.keep hb1
          refine hK.out _ _ (VS.below hHeld hb1) (fun hHeld2 => ?_)
          clear hK K hHeld hb1
          have hHeld := hHeld2
          clear hHeld2
          try simp only [Act.put, List.setIfInBounds_toArray, List.set_cons_zero, List.set_cons_succ, List.getElem_toArray, List.getElem_cons_succ, List.getElem_cons_zero]
          refine wpAnyH_ready (rs := [10]) (by kernel_rfl) (by simp) ?_
          refine AllReadyH.cons rfl (fun K hK => ?_) AllReadyH.nil
          rw [if_pos (by kernel_rfl)]
          have hP := Lib.hid (PV.of hHeld hR9 hne hs hs1)
          refine wp_store22 (x := .tmp 9) (y := .tmp 27) ?_ ?_ ?_ hR9 hs hs1 ?_
          · rfl
          · rfl
          · rfl
          refine hK.out _ _ ⟨hP.out.1, hP.out.2.1, hP.out.2.2.1, hP.out.2.2.2.2⟩ (fun hHeld2 => ?_)
          clear hK K hHeld hHeld2 hR9
          try simp only [Act.put, List.setIfInBounds_toArray, List.set_cons_zero, List.set_cons_succ, List.getElem_toArray, List.getElem_cons_succ, List.getElem_cons_zero]
          refine wpAnyH_done (by kernel_rfl) ?_ _
          refine NoPanic.normal ?_
          generalize World.setRow _ _ _ = W9 at hP ⊢
          exact REST _ _ hP.out
      · rw [if_pos (by kernel_rfl)]
        obtain ⟨a1, hR9, hne⟩ := hHeld.alloc9
        go_simp
        refine hK.out _ _ a1 (fun hHeld2 => ?_)
        clear hK K hHeld a1
        have hHeld := hHeld2
        clear hHeld2
        generalize World.alloc _ _ = vca at *
        generalize vc.heap.size = bs at *
        try simp only [Act.put, List.setIfInBounds_toArray, List.set_cons_zero, List.set_cons_succ, List.getElem_toArray, List.getElem_cons_succ, List.getElem_cons_zero]
        refine wpAnyH_ready (rs := [7]) (by kernel_rfl) (by simp) ?_
        refine AllReadyH.cons rfl (fun K hK => ?_) AllReadyH.nil
        rw [if_pos (by kernel_rfl)]; go_simp; go_at_call 11; (with_reducible refine (H2.out _).mono ?_); rintro e vcac ⟨rfl, hb1⟩
        have hR9 := hR9.keep hb1
        refine hK.out _ _ (VS.below hHeld hb1) (fun hHeld2 => ?_)
        clear hK K hHeld hb1
        have hHeld := hHeld2
        clear hHeld2
        try simp only [Act.put, List.setIfInBounds_toArray, List.set_cons_zero, List.set_cons_succ, List.getElem_toArray, List.getElem_cons_succ, List.getElem_cons_zero]
        refine wpAnyH_ready (rs := [8]) (by kernel_rfl) (by simp) ?_
        refine AllReadyH.cons rfl (fun K hK => ?_) AllReadyH.nil
        rw [if_pos (by kernel_rfl)]; go_simp; go_at_call 11; (with_reducible refine (H3.out _).mono ?_); rintro e vcacc ⟨rfl, hb1⟩
        have hR9 := hR9.keep hb1
        refine hK.out _ _ (VS.below hHeld hb1) (fun hHeld2 => ?_)
        clear hK K hHeld hb1
        have hHeld := hHeld2
        clear hHeld2
        try simp only [Act.put, List.setIfInBounds_toArray, List.set_cons_zero, List.set_cons_succ, List.getElem_toArray, List.getElem_cons_succ, List.getElem_cons_zero]
        refine wpAnyH_ready (rs := [10]) (by kernel_rfl) (by simp) ?_
        refine AllReadyH.cons rfl (fun K hK => ?_) AllReadyH.nil
        rw [if_pos (by kernel_rfl)]
        have hP := Lib.hid (PV.of hHeld hR9 hne hs hs1)
        refine wp_store22 (x := .tmp 9) (y := .tmp 27) ?_ ?_ ?_ hR9 hs hs1 ?_
        · rfl
        · rfl
        · rfl
        refine hK.out _ _ ⟨hP.out.1, hP.out.2.1, hP.out.2.2.1, hP.out.2.2.2.2⟩ (fun hHeld2 => ?_)
        clear hK K hHeld hHeld2 hR9
        try simp only [Act.put, List.setIfInBounds_toArray, List.set_cons_zero, List.set_cons_succ, List.getElem_toArray, List.getElem_cons_succ, List.getElem_cons_zero]
        refine wpAnyH_done (by kernel_rfl) ?_ _
        refine NoPanic.normal ?_
        generalize World.setRow _ _ _ = W9 at hP ⊢
        exact REST _ _ hP.out
    · rw [if_pos (by kernel_rfl)]
      obtain ⟨a1, hR9, hne⟩ := hHeld.alloc9
      go_simp
      refine hK.out _ _ a1 (fun hHeld2 => ?_)
      clear hK K hHeld a1
      have hHeld := hHeld2
      clear hHeld2
      generalize World.alloc _ _ = va at *
      generalize v.heap.size = bs at *
      try simp only [Act.put, List.setIfInBounds_toArray, List.set_cons_zero, List.set_cons_succ, List.getElem_toArray, List.getElem_cons_succ, List.getElem_cons_zero]
      refine wpAnyH_ready (rs := [3]) (by kernel_rfl) (by simp) ?_
      refine AllReadyH.cons rfl (fun K hK => ?_) AllReadyH.nil
      rw [if_pos (by kernel_rfl)]; go_simp; go_at_call 11; (with_reducible refine (H1.out _).mono ?_); rintro e vac ⟨rfl, hb1⟩
      have hR9 := hR9.keep hb1
      refine hK.out _ _ (VS.below hHeld hb1) (fun hHeld2 => ?_)
      clear hK K hHeld hb1
      have hHeld := hHeld2
      clear hHeld2
      try simp only [Act.put, List.setIfInBounds_toArray, List.set_cons_zero, List.set_cons_succ, List.getElem_toArray, List.getElem_cons_succ, List.getElem_cons_zero]
      refine wpAnyH_ready (rs := [7]) (by kernel_rfl) (by simp) ?_
      refine AllReadyH.cons rfl (fun K hK => ?_) AllReadyH.nil
      rw [if_pos (by kernel_rfl)]; go_simp; go_at_call 11; (with_reducible refine (H2.out _).mono ?_); rintro e vacc ⟨rfl, hb1⟩
      have hR9 := hR9.keep hb1
      refine hK.out _ _ (VS.below hHeld hb1) (fun hHeld2 => ?_)
      clear hK K hHeld hb1
      have hHeld := hHeld2
      clear hHeld2
      try simp only [Act.put, List.setIfInBounds_toArray, List.set_cons_zero, List.set_cons_succ, List.getElem_toArray, List.getElem_cons_succ, List.getElem_cons_zero]
      refine wpAnyH_ready (rs := [8]) (by kernel_rfl) (by simp) ?_
      refine AllReadyH.cons rfl (fun K hK => ?_) AllReadyH.nil
      rw [if_pos (by kernel_rfl)]; go_simp; go_at_call 11; (with_reducible refine (H3.out _).mono ?_); rintro e vaccc ⟨rfl, hb1⟩
      have hR9 := hR9.keep hb1
      refine hK.out _ _ (VS.below hHeld hb1) (fun hHeld2 => ?_)
      clear hK K hHeld hb1
      have hHeld := hHeld2
      clear hHeld2
      try simp only [Act.put, List.setIfInBounds_toArray, List.set_cons_zero, List.set_cons_succ, List.getElem_toArray, List.getElem_cons_succ, List.getElem_cons_zero]
      refine wpAnyH_ready (rs := [10]) (by kernel_rfl) (by simp) ?_
      refine AllReadyH.cons rfl (fun K hK => ?_) AllReadyH.nil
      rw [if_pos (by kernel_rfl)]
      have hP := Lib.hid (PV.of hHeld hR9 hne hs hs1)
      refine wp_store22 (x := .tmp 9) (y := .tmp 27) ?_ ?_ ?_ hR9 hs hs1 ?_
      · rfl
      · rfl
      · rfl
      refine hK.out _ _ ⟨hP.out.1, hP.out.2.1, hP.out.2.2.1, hP.out.2.2.2.2⟩ (fun hHeld2 => ?_)
      clear hK K hHeld hHeld2 hR9
      try simp only [Act.put, List.setIfInBounds_toArray, List.set_cons_zero, List.set_cons_succ, List.getElem_toArray, List.getElem_cons_succ, List.getElem_cons_zero]
      refine wpAnyH_done (by kernel_rfl) ?_ _
      refine NoPanic.normal ?_
      generalize World.setRow _ _ _ = W9 at hP ⊢
      exact REST _ _ hP.out
  · rintro bs W9 hP
    have HS := Lib.hid hP
    clear hP
    go_wp2_with fail
    refine wp_region_noPanic ?_
    refine wp_region_held_drew (S := fun W => PV w x y z s bs W) (by kernel_rfl) ?_ (fun hHeld => ?_)
    · exact HS.out.drew
    generalize World.drew _ = W5 at hHeld ⊢
    clear HS
    refine wpAnyH_take (i := 0) (v := ?_) rfl (by kernel_rfl) (by kernel_rfl) (by kernel_rfl) (fun _ _ _ h => h) (Or.inl ⟨by kernel_rfl, ?_⟩) (by assumption) ?_
    rotate_left
    · intro w hSw
      refine exec_load22 (x := .tmp 4) ?_ ?_ hSw.1
      · rfl
      · rfl
      try with_reducible rfl
    simp only [Act.put, List.setIfInBounds_toArray, List.set_cons_zero, List.set_cons_succ, List.getElem_toArray, List.getElem_cons_succ, List.getElem_cons_zero]
    refine wpAnyH_take (i := 1) (v := ?_) rfl (by kernel_rfl) (by kernel_rfl) (by kernel_rfl) (fun _ _ _ h => h) (Or.inl ⟨by kernel_rfl, ?_⟩) (by assumption) ?_
    rotate_left
    · intro w hSw
      refine exec_load22 (x := .tmp 5) ?_ ?_ hSw.2.1
      · rfl
      · rfl
      try with_reducible rfl
    simp only [Act.put, List.setIfInBounds_toArray, List.set_cons_zero, List.set_cons_succ, List.getElem_toArray, List.getElem_cons_succ, List.getElem_cons_zero]
    refine wpAnyH_take (i := 3) (v := ?_) rfl (by kernel_rfl) (by kernel_rfl) (by kernel_rfl) (fun _ _ _ h => h) (Or.inl ⟨by kernel_rfl, ?_⟩) (by assumption) ?_
    rotate_left
    · intro w hSw
      refine exec_load22 (x := .tmp 6) ?_ ?_ hSw.2.2.1
      · rfl
      · rfl
      try with_reducible rfl
    simp only [Act.put, List.setIfInBounds_toArray, List.set_cons_zero, List.set_cons_succ, List.getElem_toArray, List.getElem_cons_succ, List.getElem_cons_zero]
    refine wpAnyH_take (i := 4) (v := ?_) rfl (by kernel_rfl) (by kernel_rfl) (by kernel_rfl) (fun _ _ _ h => h) (Or.inl ⟨by kernel_rfl, ?_⟩) (by assumption) ?_
    rotate_left
    · intro w hSw
      go_simp
      try with_reducible rfl
    simp only [Act.put, List.setIfInBounds_toArray, List.set_cons_zero, List.set_cons_succ, List.getElem_toArray, List.getElem_cons_succ, List.getElem_cons_zero]
    refine wpAnyH_take (i := 6) (v := ?_) rfl (by kernel_rfl) (by kernel_rfl) (by kernel_rfl) (fun _ _ _ h => h) (Or.inl ⟨by kernel_rfl, ?_⟩) (by assumption) ?_
    rotate_left
    · intro w hSw
      refine exec_load22 (x := .tmp 9) ?_ ?_ hSw.2.2.2.1
      · rfl
      · rfl
      try with_reducible rfl
    simp only [Act.put, List.setIfInBounds_toArray, List.set_cons_zero, List.set_cons_succ, List.getElem_toArray, List.getElem_cons_succ, List.getElem_cons_zero]
    refine wpAnyH_ready (rs := [2]) (by kernel_rfl) (by simp) ?_
    refine AllReadyH.cons rfl (fun K hK => ?_) AllReadyH.nil
    rw [if_pos (by kernel_rfl)]; go_simp; go_at_call 11; (with_reducible refine (H4.out _).mono ?_); rintro e w1 ⟨rfl, hb1⟩
    refine hK.out _ _ (PV.below hHeld hb1) (fun hHeld2 => ?_)
    clear hK K hHeld hb1
    have hHeld := hHeld2
    clear hHeld2
    try simp only [Act.put, List.setIfInBounds_toArray, List.set_cons_zero, List.set_cons_succ, List.getElem_toArray, List.getElem_cons_succ, List.getElem_cons_zero]
    refine wpAnyH_ready (rs := [5]) (by kernel_rfl) (by simp) ?_
    refine AllReadyH.cons rfl (fun K hK => ?_) AllReadyH.nil
    rw [if_pos (by kernel_rfl)]; go_simp; go_at_call 11; (with_reducible refine (H5.out _).mono ?_); rintro e w1 ⟨rfl, hb1⟩
    refine hK.out _ _ (PV.below hHeld hb1) (fun hHeld2 => ?_)
    clear hK K hHeld hb1
    have hHeld := hHeld2
    clear hHeld2
    try simp only [Act.put, List.setIfInBounds_toArray, List.set_cons_zero, List.set_cons_succ, List.getElem_toArray, List.getElem_cons_succ, List.getElem_cons_zero]
    refine wpAnyH_take (i := 7) (v := ?_) rfl (by kernel_rfl) (by kernel_rfl) (by kernel_rfl) (fun _ _ _ h => h) (Or.inl ⟨by kernel_rfl, ?_⟩) (by assumption) ?_
    rotate_left
    · intro w hSw
      have q := ES.out
      go_simp
      try with_reducible rfl
    simp only [Act.put, List.setIfInBounds_toArray, List.set_cons_zero, List.set_cons_succ, List.getElem_toArray, List.getElem_cons_succ, List.getElem_cons_zero]
    refine wpAnyH_done (by kernel_rfl) ?_ _
    refine NoPanic.normal ?_
    have HS0 := Lib.hid hHeld
    clear hHeld
    go_wp2_with (first | (refine wpList_load22 rfl rfl rfl HS0.out.1 ?_) | (refine wpList_load22 rfl rfl rfl HS0.out.2.2.1 ?_))
    rw [EJ.out]
    go_at_call 9
    with_reducible refine (H6.out _).mono ?_
    rintro e w1 ⟨rfl, hb1⟩
    have HS1 := Lib.hid (HS0.out.below hb1)
    clear HS0 hb1
    have g1 := G1.out
    go_wp2_with (first | (refine wpList_load22 rfl rfl rfl HS1.out.1 ?_) | (refine wpList_load22 rfl rfl rfl HS1.out.2.2.1 ?_))
    go_at_call 9
    with_reducible refine (H7.out _).mono ?_
    rintro e w2 ⟨rfl, hb1⟩
    have HS2 := Lib.hid (HS1.out.below hb1)
    clear HS1 hb1
    have g2 := G2.out
    go_wp2_with (first | (refine wpList_load22 rfl rfl rfl HS2.out.1 ?_) | (refine wpList_load22 rfl rfl rfl HS2.out.2.2.1 ?_))
    go_at_call 17
    with_reducible refine (H8.out _).mono ?_
    rintro e w3 ⟨rfl, hb1⟩
    have HS3 := Lib.hid (HS2.out.below hb1)
    clear HS2 hb1
    go_wp2_with (first | (refine wpList_load22 rfl rfl rfl HS3.out.1 ?_) | (refine wpList_load22 rfl rfl rfl HS3.out.2.2.1 ?_))
    go_at_call 11
    with_reducible refine (H1.out _).mono ?_
    rintro e w4 ⟨rfl, hb1⟩
    have HS4 := Lib.hid (HS3.out.below hb1)
    clear HS3 hb1
    go_wp2_with (first | (refine wpList_load22 rfl rfl rfl HS4.out.1 ?_) | (refine wpList_load22 rfl rfl rfl HS4.out.2.2.1 ?_))
    go_at_call 9
    with_reducible refine (H9.out _).mono ?_
    rintro e w5 ⟨rfl, hb1⟩
    have HS5 := Lib.hid (HS4.out.below hb1)
    clear HS4 hb1
    go_wp2_with fail
    refine wp_region_noPanic ?_
    refine wp_region_held_drew (S := fun W => PV w x y z s bs W) (by kernel_rfl) ?_ (fun hHeld => ?_)
    · exact HS5.out.drew
    generalize World.drew _ = W6 at hHeld ⊢
    clear HS5
    refine wpAnyH_take (i := 0) (v := ?_) rfl (by kernel_rfl) (by kernel_rfl) (by kernel_rfl) (fun _ _ _ h => h) (Or.inl ⟨by kernel_rfl, ?_⟩) (by assumption) ?_
    rotate_left
    · intro w hSw
      refine exec_load22 (x := .tmp 6) ?_ ?_ hSw.2.2.1
      · rfl
      · rfl
      try with_reducible rfl
    simp only [Act.put, List.setIfInBounds_toArray, List.set_cons_zero, List.set_cons_succ, List.getElem_toArray, List.getElem_cons_succ, List.getElem_cons_zero]
    refine wpAnyH_take (i := 1) (v := ?_) rfl (by kernel_rfl) (by kernel_rfl) (by kernel_rfl) (fun _ _ _ h => h) (Or.inl ⟨by kernel_rfl, ?_⟩) (by assumption) ?_
    rotate_left
    · intro w hSw
      refine exec_load22 (x := .tmp 4) ?_ ?_ hSw.1
      · rfl
      · rfl
      try with_reducible rfl
    simp only [Act.put, List.setIfInBounds_toArray, List.set_cons_zero, List.set_cons_succ, List.getElem_toArray, List.getElem_cons_succ, List.getElem_cons_zero]
    refine wpAnyH_take (i := 2) (v := ?_) rfl (by kernel_rfl) (by kernel_rfl) (by kernel_rfl) (fun _ _ _ h => h) (Or.inl ⟨by kernel_rfl, ?_⟩) (by assumption) ?_
    rotate_left
    · intro w hSw
      go_simp
      try with_reducible rfl
    simp only [Act.put, List.setIfInBounds_toArray, List.set_cons_zero, List.set_cons_succ, List.getElem_toArray, List.getElem_cons_succ, List.getElem_cons_zero]
    refine wpAnyH_take (i := 4) (v := ?_) rfl (by kernel_rfl) (by kernel_rfl) (by kernel_rfl) (fun _ _ _ h => h) (Or.inl ⟨by kernel_rfl, ?_⟩) (by assumption) ?_
    rotate_left
    · intro w hSw
      refine exec_load22 (x := .tmp 4) ?_ ?_ hSw.1
      · rfl
      · rfl
      try with_reducible rfl
    simp only [Act.put, List.setIfInBounds_toArray, List.set_cons_zero, List.set_cons_succ, List.getElem_toArray, List.getElem_cons_succ, List.getElem_cons_zero]
    refine wpAnyH_take (i := 5) (v := ?_) rfl (by kernel_rfl) (by kernel_rfl) (by kernel_rfl) (fun _ _ _ h => h) (Or.inl ⟨by kernel_rfl, ?_⟩) (by assumption) ?_
    rotate_left
    · intro w hSw
      refine exec_load22 (x := .tmp 6) ?_ ?_ hSw.2.2.1
      · rfl
      · rfl
      try with_reducible rfl
    simp only [Act.put, List.setIfInBounds_toArray, List.set_cons_zero, List.set_cons_succ, List.getElem_toArray, List.getElem_cons_succ, List.getElem_cons_zero]
    refine wpAnyH_take (i := 6) (v := ?_) rfl (by kernel_rfl) (by kernel_rfl) (by kernel_rfl) (fun _ _ _ h => h) (Or.inl ⟨by kernel_rfl, ?_⟩) (by assumption) ?_
    rotate_left
    · intro w hSw
      go_simp
      try with_reducible rfl
    simp only [Act.put, List.setIfInBounds_toArray, List.set_cons_zero, List.set_cons_succ, List.getElem_toArray, List.getElem_cons_succ, List.getElem_cons_zero]
    refine wpAnyH_ready (rs := [3]) (by kernel_rfl) (by simp) ?_
    refine AllReadyH.cons rfl (fun K hK => ?_) AllReadyH.nil
    rw [if_pos (by kernel_rfl)]; go_simp; go_at_call 11; (with_reducible refine (H10.out _).mono ?_); rintro e w1 ⟨rfl, hb1⟩
    refine hK.out _ _ (PV.below hHeld hb1) (fun hHeld2 => ?_)
    clear hK K hHeld hb1
    have hHeld := hHeld2
    clear hHeld2
    try simp only [Act.put, List.setIfInBounds_toArray, List.set_cons_zero, List.set_cons_succ, List.getElem_toArray, List.getElem_cons_succ, List.getElem_cons_zero]
    refine wpAnyH_ready (rs := [7]) (by kernel_rfl) (by simp) ?_
    refine AllReadyH.cons rfl (fun K hK => ?_) AllReadyH.nil
    rw [if_pos (by kernel_rfl)]; go_simp; go_at_call 11; (with_reducible refine (H1.out _).mono ?_); rintro e w1 ⟨rfl, hb1⟩
    refine hK.out _ _ (PV.below hHeld hb1) (fun hHeld2 => ?_)
    clear hK K hHeld hb1
    have hHeld := hHeld2
    clear hHeld2
    try simp only [Act.put, List.setIfInBounds_toArray, List.set_cons_zero, List.set_cons_succ, List.getElem_toArray, List.getElem_cons_succ, List.getElem_cons_zero]
    refine wpAnyH_take (i := 8) (v := ?_) rfl (by kernel_rfl) (by kernel_rfl) (by kernel_rfl) (fun _ _ _ h => h) (Or.inl ⟨by kernel_rfl, ?_⟩) (by assumption) ?_
    rotate_left
    · intro w hSw
      have q := EP.out
      go_simp
      try with_reducible rfl
    simp only [Act.put, List.setIfInBounds_toArray, List.set_cons_zero, List.set_cons_succ, List.getElem_toArray, List.getElem_cons_succ, List.getElem_cons_zero]
    refine wpAnyH_take (i := 9) (v := ?_) rfl (by kernel_rfl) (by kernel_rfl) (by kernel_rfl) (fun _ _ _ h => h) (Or.inl ⟨by kernel_rfl, ?_⟩) (by assumption) ?_
    rotate_left
    · intro w hSw
      go_simp
      try with_reducible rfl
    simp only [Act.put, List.setIfInBounds_toArray, List.set_cons_zero, List.set_cons_succ, List.getElem_toArray, List.getElem_cons_succ, List.getElem_cons_zero]
    refine wpAnyH_take (i := 10) (v := ?_) rfl (by kernel_rfl) (by kernel_rfl) (by kernel_rfl) (fun _ _ _ h => h) (Or.inl ⟨by kernel_rfl, ?_⟩) (by assumption) ?_
    rotate_left
    · intro w hSw
      go_simp
      try with_reducible rfl
    simp only [Act.put, List.setIfInBounds_toArray, List.set_cons_zero, List.set_cons_succ, List.getElem_toArray, List.getElem_cons_succ, List.getElem_cons_zero]
    refine wpAnyH_take (i := 11) (v := ?_) rfl (by kernel_rfl) (by kernel_rfl) (by kernel_rfl) (fun _ _ _ h => h) (Or.inl ⟨by kernel_rfl, ?_⟩) (by assumption) ?_
    rotate_left
    · intro w hSw
      go_simp
      try with_reducible rfl
    simp only [Act.put, List.setIfInBounds_toArray, List.set_cons_zero, List.set_cons_succ, List.getElem_toArray, List.getElem_cons_succ, List.getElem_cons_zero]
    refine wpAnyH_take (i := 12) (v := ?_) rfl (by kernel_rfl) (by kernel_rfl) (by kernel_rfl) (fun _ _ _ h => h) (Or.inl ⟨by kernel_rfl, ?_⟩) (by assumption) ?_
    rotate_left
    · intro w hSw
      go_simp
      try with_reducible rfl
    simp only [Act.put, List.setIfInBounds_toArray, List.set_cons_zero, List.set_cons_succ, List.getElem_toArray, List.getElem_cons_succ, List.getElem_cons_zero]
    refine wpAnyH_take (i := 13) (v := ?_) rfl (by kernel_rfl) (by kernel_rfl) (by kernel_rfl) (fun _ _ _ h => h) (Or.inl ⟨by kernel_rfl, ?_⟩) (by assumption) ?_
    rotate_left
    · intro w hSw
      go_simp
      try with_reducible rfl
    simp only [Act.put, List.setIfInBounds_toArray, List.set_cons_zero, List.set_cons_succ, List.getElem_toArray, List.getElem_cons_succ, List.getElem_cons_zero]
    refine wpAnyH_take (i := 14) (v := ?_) rfl (by kernel_rfl) (by kernel_rfl) (by kernel_rfl) (fun _ _ _ h => h) (Or.inl ⟨by kernel_rfl, ?_⟩) (by assumption) ?_
    rotate_left
    · intro w hSw
      go_simp
      try with_reducible rfl
    simp only [Act.put, List.setIfInBounds_toArray, List.set_cons_zero, List.set_cons_succ, List.getElem_toArray, List.getElem_cons_succ, List.getElem_cons_zero]
    refine wpAnyH_take (i := 15) (v := ?_) rfl (by kernel_rfl) (by kernel_rfl) (by kernel_rfl) (fun _ _ _ h => h) (Or.inl ⟨by kernel_rfl, ?_⟩) (by assumption) ?_
    rotate_left
    · intro w hSw
      go_simp
      try with_reducible rfl
    simp only [Act.put, List.setIfInBounds_toArray, List.set_cons_zero, List.set_cons_succ, List.getElem_toArray, List.getElem_cons_succ, List.getElem_cons_zero]
    refine wpAnyH_take (i := 16) (v := ?_) rfl (by kernel_rfl) (by kernel_rfl) (by kernel_rfl) (fun _ _ _ h => h) (Or.inl ⟨by kernel_rfl, ?_⟩) (by assumption) ?_
    rotate_left
    · intro w hSw
      go_simp
      try with_reducible rfl
    simp only [Act.put, List.setIfInBounds_toArray, List.set_cons_zero, List.set_cons_succ, List.getElem_toArray, List.getElem_cons_succ, List.getElem_cons_zero]
    refine wpAnyH_take (i := 17) (v := ?_) rfl (by kernel_rfl) (by kernel_rfl) (by kernel_rfl) (fun _ _ _ h => h) (Or.inl ⟨by kernel_rfl, ?_⟩) (by assumption) ?_
    rotate_left
    · intro w hSw
      go_simp
      try with_reducible rfl
    simp only [Act.put, List.setIfInBounds_toArray, List.set_cons_zero, List.set_cons_succ, List.getElem_toArray, List.getElem_cons_succ, List.getElem_cons_zero]
    refine wpAnyH_take (i := 18) (v := ?_) rfl (by kernel_rfl) (by kernel_rfl) (by kernel_rfl) (fun _ _ _ h => h) (Or.inl ⟨by kernel_rfl, ?_⟩) (by assumption) ?_
    rotate_left
    · intro w hSw
      go_simp
      try with_reducible rfl
    simp only [Act.put, List.setIfInBounds_toArray, List.set_cons_zero, List.set_cons_succ, List.getElem_toArray, List.getElem_cons_succ, List.getElem_cons_zero]
    refine wpAnyH_take (i := 19) (v := ?_) rfl (by kernel_rfl) (by kernel_rfl) (by kernel_rfl) (fun _ _ _ h => h) (Or.inl ⟨by kernel_rfl, ?_⟩) (by assumption) ?_
    rotate_left
    · intro w hSw
      go_simp
      try with_reducible rfl
    simp only [Act.put, List.setIfInBounds_toArray, List.set_cons_zero, List.set_cons_succ, List.getElem_toArray, List.getElem_cons_succ, List.getElem_cons_zero]
    refine wpAnyH_ready (rs := [20]) (by kernel_rfl) (by simp) ?_
    refine AllReadyH.cons rfl (fun K hK => ?_) AllReadyH.nil
    rw [if_pos (by kernel_rfl)]; go_simp; go_at_call 8; (with_reducible refine (H11.out _).mono ?_); rintro e w1 ⟨rfl, hb1⟩
    refine hK.out _ _ (PV.below hHeld hb1) (fun hHeld2 => ?_)
    clear hK K hHeld hb1
    have hHeld := hHeld2
    clear hHeld2
    try simp only [Act.put, List.setIfInBounds_toArray, List.set_cons_zero, List.set_cons_succ, List.getElem_toArray, List.getElem_cons_succ, List.getElem_cons_zero]
    refine wpAnyH_take (i := 21) (v := ?_) rfl (by kernel_rfl) (by kernel_rfl) (by kernel_rfl) (fun _ _ _ h => h) (Or.inl ⟨by kernel_rfl, ?_⟩) (by assumption) ?_
    rotate_left
    · intro w hSw
      go_simp
      try with_reducible rfl
    simp only [Act.put, List.setIfInBounds_toArray, List.set_cons_zero, List.set_cons_succ, List.getElem_toArray, List.getElem_cons_succ, List.getElem_cons_zero]
    refine wpAnyH_take (i := 22) (v := ?_) rfl (by kernel_rfl) (by kernel_rfl) (by kernel_rfl) (fun _ _ _ h => h) (Or.inl ⟨by kernel_rfl, ?_⟩) (by assumption) ?_
    rotate_left
    · intro w hSw
      go_simp
      try with_reducible rfl
    simp only [Act.put, List.setIfInBounds_toArray, List.set_cons_zero, List.set_cons_succ, List.getElem_toArray, List.getElem_cons_succ, List.getElem_cons_zero]
    refine wpAnyH_done (by kernel_rfl) ?_ _
    refine NoPanic.normal ?_
    go_wp2
    go_ret
    exact ⟨rfl, hHeld.2.2.2.2⟩
end Go.Proofs.Yteonemnpbpiifaa
