/- The reference's columns, keys, boxes of blocks. -/
import Derived.Test.YtldicconopcipaaGa
import Derived.Test.YtldicconopcipaaFd
namespace Go.Proofs.Ytldicconopcipaa
open Go.RowKit
set_option linter.unusedVariables false
set_option linter.unusedSimpArgs false
attribute [local go_sem] Oper.semAt_some
theorem mul2_fin : ∀ x : Fin 256, mulN 2 x.val = twN x.val ∧ mulN 3 x.val = twN x.val ^^^ x.val := by decide +kernel
theorem rmix_val (c : Nat → Nat) (hc : ∀ i, c i < 256) (k : Nat) : bits .xor .u8 (bits .xor .u8 (bits .xor .u8 ((mulN 2 (c k) : Nat) : Int) ((mulN 3 (c ((k + 1) % 4)) : Nat) : Int)) ((c ((k + 2) % 4) : Nat) : Int)) ((c ((k + 3) % 4) : Nat) : Int) = ((mixN c k : Nat) : Int) := by
  have h0 := twN_lt _ (hc k)
  have h1 := xor_lt8 (twN_lt _ (hc ((k + 1) % 4))) (hc ((k + 1) % 4))
  rw [(mul2_fin ⟨c k, hc k⟩).1, (mul2_fin ⟨c ((k + 1) % 4), hc _⟩).2]
  dsimp only
  rw [xor8 _ _ h0 h1, xor8 _ _ (xor_lt8 h0 h1) (hc _), xor8 _ _ (xor_lt8 (xor_lt8 h0 h1) (hc _)) (hc _)]
  unfold mixN
  simp only [Nat.xor_assoc]
set_option maxRecDepth 100000 in
set_option maxHeartbeats 4000000 in
theorem rmix_any (c : Nat → Nat) (hc : ∀ i, c i < 256) (w : World) :
    Calls Try.prog 34 #[.agg (qA c)] w fun e w' => e = .returned (.agg (qA (mixN c))) ∧ Below w.heap.size w w' := by
  have HS := Lib.hid (MS.new w c)
  have HC := Lib.hid hc
  go_enter Try.func34, Try.ntmps34
  go_upto_region 2 with fail
  generalize World.alloc (World.alloc (World.alloc _ _) _) _ = W1 at *
  clear hc
  go_wp2_with fail
  go_loopw [4] (fun i W => ∃ k : Nat, k ≤ 4 ∧ i = .int .i64 k ∧ MS w c k W) (fun i _ => 4 - (intOf i).toNat)
  case atStart => exact ⟨0, by omega, rfl, HS.out⟩
  case round =>
    obtain ⟨k, hk, rfl, hX⟩ := hrel
    have hS := Lib.hid hX
    clear hX
    by_cases hk4 : k < 4
    · go_upto_region 5 with fail
      obtain ⟨m1, hm1⟩ : ∃ m, m = (k + 1) % 4 := ⟨_, rfl⟩
      have HM1 : Hid ((IntKind.i64.wrap ((k : Int) + 1)).tmod 4 = (m1 : Int)) := Lib.hid (by rw [hm1]; exact mod4 k 1 hk4 (by omega))
      have l1 : m1 < 4 := by omega
      obtain ⟨m2, hm2⟩ : ∃ m, m = (k + 2) % 4 := ⟨_, rfl⟩
      have HM2 : Hid ((IntKind.i64.wrap ((k : Int) + 2)).tmod 4 = (m2 : Int)) := Lib.hid (by rw [hm2]; exact mod4 k 2 hk4 (by omega))
      have l2 : m2 < 4 := by omega
      obtain ⟨m3, hm3⟩ : ∃ m, m = (k + 3) % 4 := ⟨_, rfl⟩
      have HM3 : Hid ((IntKind.i64.wrap ((k : Int) + 3)).tmod 4 = (m3 : Int)) := Lib.hid (by rw [hm3]; exact mod4 k 3 hk4 (by omega))
      have l3 : m3 < 4 := by omega
      have HX : Hid (bits .xor .u8 (bits .xor .u8 (bits .xor .u8 ((mulN 2 (c k) : Nat) : Int) ((mulN 3 (c m1) : Nat) : Int)) ((c m2 : Nat) : Int)) ((c m3 : Nat) : Int) = ((mixN c k : Nat) : Int)) := Lib.hid (by rw [hm1, hm2, hm3]; exact rmix_val c HC.out k)
      clear hm1 hm2 hm3
      have HT0 := Lib.hid (show ∀ W, Calls Try.prog 47 #[.int .u8 2, .int .u8 (c k : Nat)] W fun e w' => e = .returned (.int .u8 (mulN 2 (c k) : Nat)) ∧ W = w' from fun W => rmul_any 2 (c k) (by omega) (HC.out _) W)
      have HT1 := Lib.hid (show ∀ W, Calls Try.prog 47 #[.int .u8 3, .int .u8 (c m1 : Nat)] W fun e w' => e = .returned (.int .u8 (mulN 3 (c m1) : Nat)) ∧ W = w' from fun W => rmul_any 3 (c m1) (by omega) (HC.out _) W)
      refine wp_region_noPanic ?_
      refine wp_region_held_drew (S := fun W => MH w c W) (by kernel_rfl) ?_ (fun hHeld => ?_)
      · exact (MH.of hS.out).keep ((Below.refl _ _).drew)
      have HZ := Lib.hid (hS.out.keep ((Below.refl _ _).drew))
      generalize World.drew _ = W4 at hHeld HZ ⊢
      refine wpAnyH_take (i := 0) (v := ?_) rfl (by kernel_rfl) (by kernel_rfl) (by kernel_rfl) (fun _ _ _ h => h) (Or.inl ⟨by kernel_rfl, ?_⟩) (by assumption) ?_
      rotate_left
      · intro w hSw
        go_simp
        try with_reducible rfl
      simp only [Act.put, List.setIfInBounds_toArray, List.set_cons_zero, List.set_cons_succ, List.getElem_toArray, List.getElem_cons_succ, List.getElem_cons_zero]
      refine wpAnyH_take (i := 1) (v := ?_) rfl (by kernel_rfl) (by kernel_rfl) (by kernel_rfl) (fun _ _ _ h => h) (Or.inl ⟨by kernel_rfl, ?_⟩) (by assumption) ?_
      rotate_left
      · intro w hSw
        go_simp
        try with_reducible rfl
      simp only [Act.put, List.setIfInBounds_toArray, List.set_cons_zero, List.set_cons_succ, List.getElem_toArray, List.getElem_cons_succ, List.getElem_cons_zero]
      refine wpAnyH_take (i := 2) (v := ?_) rfl (by kernel_rfl) (by kernel_rfl) (by kernel_rfl) (fun _ _ _ h => h) (Or.inl ⟨by kernel_rfl, ?_⟩) (by assumption) ?_
      rotate_left
      · intro w hSw
        go_simp
        try with_reducible rfl
      simp only [Act.put, List.setIfInBounds_toArray, List.set_cons_zero, List.set_cons_succ, List.getElem_toArray, List.getElem_cons_succ, List.getElem_cons_zero]
      refine wpAnyH_take (i := 3) (v := ?_) rfl (by kernel_rfl) (by kernel_rfl) (by kernel_rfl) (fun _ _ _ h => h) (Or.inl ⟨by kernel_rfl, ?_⟩) (by assumption) ?_
      rotate_left
      · intro w hSw
        have c0 := hSw.1.1.cell k hk4
        go_simp
        try with_reducible rfl
      simp only [Act.put, List.setIfInBounds_toArray, List.set_cons_zero, List.set_cons_succ, List.getElem_toArray, List.getElem_cons_succ, List.getElem_cons_zero]
      refine wpAnyH_take (i := 5) (v := ?_) rfl (by kernel_rfl) (by kernel_rfl) (by kernel_rfl) (fun _ _ _ h => h) (Or.inl ⟨by kernel_rfl, ?_⟩) (by assumption) ?_
      rotate_left
      · intro w hSw
        go_simp
        try with_reducible rfl
      simp only [Act.put, List.setIfInBounds_toArray, List.set_cons_zero, List.set_cons_succ, List.getElem_toArray, List.getElem_cons_succ, List.getElem_cons_zero]
      refine wpAnyH_take (i := 6) (v := ?_) rfl (by kernel_rfl) (by kernel_rfl) (by kernel_rfl) (fun _ _ _ h => h) (Or.inl ⟨by kernel_rfl, ?_⟩) (by assumption) ?_
      rotate_left
      · intro w hSw
        go_simp
        try with_reducible rfl
      simp only [Act.put, List.setIfInBounds_toArray, List.set_cons_zero, List.set_cons_succ, List.getElem_toArray, List.getElem_cons_succ, List.getElem_cons_zero]
      refine wpAnyH_take (i := 7) (v := ?_) rfl (by kernel_rfl) (by kernel_rfl) (by kernel_rfl) (fun _ _ _ h => h) (Or.inl ⟨by kernel_rfl, ?_⟩) (by assumption) ?_
      rotate_left
      · intro w hSw
        go_simp
        rw [HM1.out]
        try with_reducible rfl
      simp only [Act.put, List.setIfInBounds_toArray, List.set_cons_zero, List.set_cons_succ, List.getElem_toArray, List.getElem_cons_succ, List.getElem_cons_zero]
      refine wpAnyH_take (i := 8) (v := ?_) rfl (by kernel_rfl) (by kernel_rfl) (by kernel_rfl) (fun _ _ _ h => h) (Or.inl ⟨by kernel_rfl, ?_⟩) (by assumption) ?_
      rotate_left
      · intro w hSw
        have b2 : (0 : Int) ≤ (m1 : Int) ∧ (m1 : Int) < 4 := by omega
        go_simp
        try with_reducible rfl
      simp only [Act.put, List.setIfInBounds_toArray, List.set_cons_zero, List.set_cons_succ, List.getElem_toArray, List.getElem_cons_succ, List.getElem_cons_zero]
      refine wpAnyH_take (i := 9) (v := ?_) rfl (by kernel_rfl) (by kernel_rfl) (by kernel_rfl) (fun _ _ _ h => h) (Or.inl ⟨by kernel_rfl, ?_⟩) (by assumption) ?_
      rotate_left
      · intro w hSw
        have c0 := hSw.1.1.cell m1 l1
        go_simp
        try with_reducible rfl
      simp only [Act.put, List.setIfInBounds_toArray, List.set_cons_zero, List.set_cons_succ, List.getElem_toArray, List.getElem_cons_succ, List.getElem_cons_zero]
      refine wpAnyH_take (i := 12) (v := ?_) rfl (by kernel_rfl) (by kernel_rfl) (by kernel_rfl) (fun _ _ _ h => h) (Or.inl ⟨by kernel_rfl, ?_⟩) (by assumption) ?_
      rotate_left
      · intro w hSw
        go_simp
        try with_reducible rfl
      simp only [Act.put, List.setIfInBounds_toArray, List.set_cons_zero, List.set_cons_succ, List.getElem_toArray, List.getElem_cons_succ, List.getElem_cons_zero]
      refine wpAnyH_take (i := 13) (v := ?_) rfl (by kernel_rfl) (by kernel_rfl) (by kernel_rfl) (fun _ _ _ h => h) (Or.inl ⟨by kernel_rfl, ?_⟩) (by assumption) ?_
      rotate_left
      · intro w hSw
        go_simp
        try with_reducible rfl
      simp only [Act.put, List.setIfInBounds_toArray, List.set_cons_zero, List.set_cons_succ, List.getElem_toArray, List.getElem_cons_succ, List.getElem_cons_zero]
      refine wpAnyH_take (i := 14) (v := ?_) rfl (by kernel_rfl) (by kernel_rfl) (by kernel_rfl) (fun _ _ _ h => h) (Or.inl ⟨by kernel_rfl, ?_⟩) (by assumption) ?_
      rotate_left
      · intro w hSw
        go_simp
        rw [HM2.out]
        try with_reducible rfl
      simp only [Act.put, List.setIfInBounds_toArray, List.set_cons_zero, List.set_cons_succ, List.getElem_toArray, List.getElem_cons_succ, List.getElem_cons_zero]
      refine wpAnyH_take (i := 15) (v := ?_) rfl (by kernel_rfl) (by kernel_rfl) (by kernel_rfl) (fun _ _ _ h => h) (Or.inl ⟨by kernel_rfl, ?_⟩) (by assumption) ?_
      rotate_left
      · intro w hSw
        have b2 : (0 : Int) ≤ (m2 : Int) ∧ (m2 : Int) < 4 := by omega
        go_simp
        try with_reducible rfl
      simp only [Act.put, List.setIfInBounds_toArray, List.set_cons_zero, List.set_cons_succ, List.getElem_toArray, List.getElem_cons_succ, List.getElem_cons_zero]
      refine wpAnyH_take (i := 16) (v := ?_) rfl (by kernel_rfl) (by kernel_rfl) (by kernel_rfl) (fun _ _ _ h => h) (Or.inl ⟨by kernel_rfl, ?_⟩) (by assumption) ?_
      rotate_left
      · intro w hSw
        have c0 := hSw.1.1.cell m2 l2
        go_simp
        try with_reducible rfl
      simp only [Act.put, List.setIfInBounds_toArray, List.set_cons_zero, List.set_cons_succ, List.getElem_toArray, List.getElem_cons_succ, List.getElem_cons_zero]
      refine wpAnyH_take (i := 18) (v := ?_) rfl (by kernel_rfl) (by kernel_rfl) (by kernel_rfl) (fun _ _ _ h => h) (Or.inl ⟨by kernel_rfl, ?_⟩) (by assumption) ?_
      rotate_left
      · intro w hSw
        go_simp
        try with_reducible rfl
      simp only [Act.put, List.setIfInBounds_toArray, List.set_cons_zero, List.set_cons_succ, List.getElem_toArray, List.getElem_cons_succ, List.getElem_cons_zero]
      refine wpAnyH_take (i := 19) (v := ?_) rfl (by kernel_rfl) (by kernel_rfl) (by kernel_rfl) (fun _ _ _ h => h) (Or.inl ⟨by kernel_rfl, ?_⟩) (by assumption) ?_
      rotate_left
      · intro w hSw
        go_simp
        try with_reducible rfl
      simp only [Act.put, List.setIfInBounds_toArray, List.set_cons_zero, List.set_cons_succ, List.getElem_toArray, List.getElem_cons_succ, List.getElem_cons_zero]
      refine wpAnyH_take (i := 20) (v := ?_) rfl (by kernel_rfl) (by kernel_rfl) (by kernel_rfl) (fun _ _ _ h => h) (Or.inl ⟨by kernel_rfl, ?_⟩) (by assumption) ?_
      rotate_left
      · intro w hSw
        go_simp
        rw [HM3.out]
        try with_reducible rfl
      simp only [Act.put, List.setIfInBounds_toArray, List.set_cons_zero, List.set_cons_succ, List.getElem_toArray, List.getElem_cons_succ, List.getElem_cons_zero]
      refine wpAnyH_take (i := 21) (v := ?_) rfl (by kernel_rfl) (by kernel_rfl) (by kernel_rfl) (fun _ _ _ h => h) (Or.inl ⟨by kernel_rfl, ?_⟩) (by assumption) ?_
      rotate_left
      · intro w hSw
        have b2 : (0 : Int) ≤ (m3 : Int) ∧ (m3 : Int) < 4 := by omega
        go_simp
        try with_reducible rfl
      simp only [Act.put, List.setIfInBounds_toArray, List.set_cons_zero, List.set_cons_succ, List.getElem_toArray, List.getElem_cons_succ, List.getElem_cons_zero]
      refine wpAnyH_take (i := 22) (v := ?_) rfl (by kernel_rfl) (by kernel_rfl) (by kernel_rfl) (fun _ _ _ h => h) (Or.inl ⟨by kernel_rfl, ?_⟩) (by assumption) ?_
      rotate_left
      · intro w hSw
        have c0 := hSw.1.1.cell m3 l3
        go_simp
        try with_reducible rfl
      simp only [Act.put, List.setIfInBounds_toArray, List.set_cons_zero, List.set_cons_succ, List.getElem_toArray, List.getElem_cons_succ, List.getElem_cons_zero]
      refine wpAnyH_ready (rs := [4]) (by kernel_rfl) (by simp) ?_
      refine AllReadyH.cons rfl (fun K hK => ?_) AllReadyH.nil
      go_simp
      go_at_call 47
      (with_reducible refine (HT0.out _).mono ?_)
      rintro e w9 ⟨rfl, rfl⟩
      refine hK.out _ _ hHeld (fun hHeld2 => ?_)
      clear hK K hHeld2
      try simp only [Act.put, List.setIfInBounds_toArray, List.set_cons_zero, List.set_cons_succ, List.getElem_toArray, List.getElem_cons_succ, List.getElem_cons_zero]
      refine wpAnyH_ready (rs := [10]) (by kernel_rfl) (by simp) ?_
      refine AllReadyH.cons rfl (fun K hK => ?_) AllReadyH.nil
      go_simp
      go_at_call 47
      (with_reducible refine (HT1.out _).mono ?_)
      rintro e w9 ⟨rfl, rfl⟩
      refine hK.out _ _ hHeld (fun hHeld2 => ?_)
      clear hK K hHeld2
      try simp only [Act.put, List.setIfInBounds_toArray, List.set_cons_zero, List.set_cons_succ, List.getElem_toArray, List.getElem_cons_succ, List.getElem_cons_zero]
      refine wpAnyH_take (i := 11) (v := ?_) rfl (by kernel_rfl) (by kernel_rfl) (by kernel_rfl) (fun _ _ _ h => h) (Or.inl ⟨by kernel_rfl, ?_⟩) (by assumption) ?_
      rotate_left
      · intro w hSw
        go_simp
        try with_reducible rfl
      simp only [Act.put, List.setIfInBounds_toArray, List.set_cons_zero, List.set_cons_succ, List.getElem_toArray, List.getElem_cons_succ, List.getElem_cons_zero]
      refine wpAnyH_take (i := 17) (v := ?_) rfl (by kernel_rfl) (by kernel_rfl) (by kernel_rfl) (fun _ _ _ h => h) (Or.inl ⟨by kernel_rfl, ?_⟩) (by assumption) ?_
      rotate_left
      · intro w hSw
        go_simp
        try with_reducible rfl
      simp only [Act.put, List.setIfInBounds_toArray, List.set_cons_zero, List.set_cons_succ, List.getElem_toArray, List.getElem_cons_succ, List.getElem_cons_zero]
      refine wpAnyH_take (i := 23) (v := ?_) rfl (by kernel_rfl) (by kernel_rfl) (by kernel_rfl) (fun _ _ _ h => h) (Or.inl ⟨by kernel_rfl, ?_⟩) (by assumption) ?_
      rotate_left
      · intro w hSw
        go_simp
        try with_reducible rfl
      simp only [Act.put, List.setIfInBounds_toArray, List.set_cons_zero, List.set_cons_succ, List.getElem_toArray, List.getElem_cons_succ, List.getElem_cons_zero]
      refine wpAnyH_take (i := 24) (v := ?_) rfl (by kernel_rfl) (by kernel_rfl) (by kernel_rfl) (fun _ _ _ h => h) (Or.inl ⟨by kernel_rfl, ?_⟩) (by assumption) ?_
      rotate_left
      · intro w hSw
        go_simp
        try with_reducible rfl
      simp only [Act.put, List.setIfInBounds_toArray, List.set_cons_zero, List.set_cons_succ, List.getElem_toArray, List.getElem_cons_succ, List.getElem_cons_zero]
      refine wpAnyH_ready (rs := [25]) (by kernel_rfl) (by simp) ?_
      refine AllReadyH.cons rfl (fun K hK => ?_) AllReadyH.nil
      have f0 := HZ.out.2.1.froz k
      have c0 := HZ.out.2.1.cell k hk4
      rw [HX.out]
      go_simp
      refine hK.out _ _ (MH.of (HZ.out.next hk4)) (fun hHeld2 => ?_)
      have hX := Lib.hid (HZ.out.next hk4)
      clear hK K hHeld c0 f0 HZ hHeld2
      try simp only [Act.put, List.setIfInBounds_toArray, List.set_cons_zero, List.set_cons_succ, List.getElem_toArray, List.getElem_cons_succ, List.getElem_cons_zero]
      refine wpAnyH_done (by kernel_rfl) ?_ _
      refine NoPanic.normal ?_
      clear hS
      generalize World.setCell _ _ _ = W5 at hX ⊢
      go_wp2
      exact ⟨⟨k + 1, by omega, by simp, hX.out⟩, by simp [intOf]; omega⟩
    · obtain rfl : k = 4 := by omega
      have HR := Lib.hid (hS.out.2.1.congr (c := mixN c) (fun i hi => if_pos hi))
      have HZ := Lib.hid hS.out.1.2
      have HB := Lib.hid hS.out.2.2
      clear hS
      go_upto_region 6 with fail
      refine wp_region_list ?_
      refine wpList_load51 rfl rfl rfl HR.out ?_
      refine wpList_store51 rfl rfl rfl rfl HZ.out ?_
      simp only [Act.put, List.setIfInBounds_toArray, List.set_cons_zero, List.set_cons_succ, List.getElem_toArray, List.getElem_cons_succ, List.getElem_cons_zero]
      refine wpList_nil ?_
      have h9 := Lib.hid (HZ.out.row (c := mixN c))
      have hB9 := Lib.hid (below_row (vs := qA (mixN c)) HB.out (show w.heap.size ≤ w.heap.size + 1 by omega))
      generalize World.setRow _ _ _ = W2 at *
      go_wp2
      exact bodyPost_ret (v := .agg (qA (mixN c))) (results_cell_row rfl _ _ _ 51 _ (0, 0) _ rfl h9.out Try.underlying51 rfl (by rw [qA_size]; exact info51)) rfl ⟨rfl, hB9.out⟩
set_option maxRecDepth 100000 in
set_option maxHeartbeats 1000000 in
theorem keyed_any (f g : Nat → Int) (w : World) :
    Calls Try.prog 35 #[.agg (bA f), .agg (bA g)] w fun e w' => e = .returned (.agg (bA (xF f g))) ∧ Below w.heap.size w w' := by
  have h5 := ((R16.new w (bA f) (bA_size f) (bA_one f)).alloc (.cells (bA g) 22)).alloc (.cells #[.int .u8 0, .int .u8 0, .int .u8 0, .int .u8 0, .int .u8 0, .int .u8 0, .int .u8 0, .int .u8 0, .int .u8 0, .int .u8 0, .int .u8 0, .int .u8 0, .int .u8 0, .int .u8 0, .int .u8 0, .int .u8 0] 22)
  have h6 := (R16.new (w.alloc (.cells (bA f) 22)) (bA g) (bA_size g) (bA_one g)).alloc (.cells #[.int .u8 0, .int .u8 0, .int .u8 0, .int .u8 0, .int .u8 0, .int .u8 0, .int .u8 0, .int .u8 0, .int .u8 0, .int .u8 0, .int .u8 0, .int .u8 0, .int .u8 0, .int .u8 0, .int .u8 0, .int .u8 0] 22)
  have h8 := R16.newz ((w.alloc (.cells (bA f) 22)).alloc (.cells (bA g) 22))
  have hB := (((Below.refl _ w).alloc (Nat.le_refl _) (.cells (bA f) 22)).alloc (by simp) (.cells (bA g) 22)).alloc (by simp; omega) (.cells #[.int .u8 0, .int .u8 0, .int .u8 0, .int .u8 0, .int .u8 0, .int .u8 0, .int .u8 0, .int .u8 0, .int .u8 0, .int .u8 0, .int .u8 0, .int .u8 0, .int .u8 0, .int .u8 0, .int .u8 0, .int .u8 0] 22)
  simp only [World.size_alloc] at h5 h6 h8
  have HS : Hid (XS w f g 0 (((w.alloc (.cells (bA f) 22)).alloc (.cells (bA g) 22)).alloc (.cells #[.int .u8 0, .int .u8 0, .int .u8 0, .int .u8 0, .int .u8 0, .int .u8 0, .int .u8 0, .int .u8 0, .int .u8 0, .int .u8 0, .int .u8 0, .int .u8 0, .int .u8 0, .int .u8 0, .int .u8 0, .int .u8 0] 22))) := Lib.hid ⟨h5, h6, h8, hB⟩
  clear h5 h6 h8 hB
  go_enter Try.func35, Try.ntmps35
  go_upto_region 1 with fail
  generalize World.alloc (World.alloc (World.alloc _ _) _) _ = W1 at *
  go_wp2_with fail
  go_loopw [5] (fun i W => ∃ k : Nat, k ≤ 16 ∧ i = .int .i64 k ∧ XS w f g k W) (fun i _ => 16 - (intOf i).toNat)
  case atStart => exact ⟨0, by omega, rfl, HS.out⟩
  case round =>
    obtain ⟨k, hk, rfl, hX⟩ := hrel
    have hS := Lib.hid hX
    clear hX
    by_cases hk16 : k < 16
    · go_upto_region 4 with fail
      have c0 := RB.cell hS.out.1 k hk16
      simp only [Nat.lt_irrefl, if_false] at c0
      have f0 := RB.froz hS.out.1 k
      have d0 := RB.cell hS.out.2.1 k hk16
      go_region
      have hS2 : Hid (XS w f g (k + 1) _) := Lib.hid (hS.out.next hk16).drew
      clear c0 f0 d0 hS
      simp only [xF] at hS2
      generalize World.drew _ = W5 at hS2 ⊢
      go_wp2
      exact ⟨⟨k + 1, by omega, by simp, hS2.out⟩, by simp [intOf]; omega⟩
    · obtain rfl : k = 16 := by omega
      have h5 := hS.out.1
      have h8 := hS.out.2.2.1
      rw [bA_congr (fun j hj => show (if j < 16 then xF f g j else f j) = xF f g j from if_pos hj)] at h5
      go_wp2_with (first | (refine wpList_load22 rfl rfl rfl h5 ?_) | (refine wpList_store22 rfl rfl rfl rfl h8 (bA_size _) (bA_one _) ?_))
      simp only [Act.put, List.setIfInBounds_toArray, List.set_cons_zero, List.set_cons_succ, List.getElem_toArray, List.getElem_cons_succ, List.getElem_cons_zero]
      have h9 := Lib.hid (h8.row (bA_size (xF f g)) (bA_one (xF f g)))
      have hB9 := Lib.hid (below_row (vs := bA (xF f g)) hS.out.2.2.2 (show w.heap.size ≤ w.heap.size + 1 + 1 by omega))
      clear hS h5 h8
      generalize World.setRow _ _ _ = W2 at *
      exact bodyPost_ret (v := .agg (bA (xF f g))) (results_cell_row rfl _ _ _ 22 _ (0, 0) _ rfl h9.out.1 Try.underlying22 rfl (by rw [h9.out.2.1]; exact info22)) rfl ⟨rfl, hB9.out⟩
end Go.Proofs.Ytldicconopcipaa
