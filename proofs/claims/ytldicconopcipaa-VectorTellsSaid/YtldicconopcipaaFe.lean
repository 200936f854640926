/- A round, its columns mixed. -/
import Derived.Test.YtldicconopcipaaFd
namespace Go.Proofs.Ytldicconopcipaa
open Go.RowKit Go.Shelf
set_option linter.unusedVariables false
set_option linter.unusedSimpArgs false
attribute [local go_sem] Oper.semAt_some
set_option maxRecDepth 100000 in
set_option maxHeartbeats 8000000 in
theorem round42_in (F : Fence) (HF : Hid (F = Fence.wide)) (n : Nat) (hn3 : 3 ≤ n) (f g : Nat → Nat) (hf : ∀ j, f j < 256) (hg : ∀ j, g j < 256) (w : World) :
    CallsIn F n Try.prog 41 #[.agg (bN f), .agg (bN g), .func (.func 42) #[] #[]] w fun e W' => e = .returned (.agg (bN (uK mixN (sB f) g 16))) ∧ Below w.heap.size w W' := by
  have HG := Lib.hid hg
  clear hg
  have h1 : 1 ≤ n := by omega
  have hro : F.round = none := by rw [HF.out]; rfl
  have h41 : F.fn 41 := by rw [HF.out]; trivial
  have h54 : F.fn 54 := by rw [HF.out]; trivial
  have HX := Lib.hid (RK.new w f g)
  refine callsIn_of_wp_marks Try.func41 rfl h41 ?_ hro
  simp only [Try.ntmps41, List.size_toArray, List.length_cons, List.length_nil, Nat.reduceAdd, Nat.reduceSub, Array.replicate_succ, Array.replicate_zero, List.push_toArray, List.append_toArray, List.nil_append, List.cons_append]
  refine wpIn_of_wp HF ?_
  go_upto_region 2 with fail
  have HS0 : Hid ((World.alloc (World.alloc (World.alloc (World.alloc w (.cells (bN f) 22)) (.cells (bN g) 22)) (.cells #[.int .u8 0, .int .u8 0, .int .u8 0, .int .u8 0, .int .u8 0, .int .u8 0, .int .u8 0, .int .u8 0, .int .u8 0, .int .u8 0, .int .u8 0, .int .u8 0, .int .u8 0, .int .u8 0, .int .u8 0, .int .u8 0] 22)) (.cells #[.int .u8 0, .int .u8 0, .int .u8 0, .int .u8 0, .int .u8 0, .int .u8 0, .int .u8 0, .int .u8 0, .int .u8 0, .int .u8 0, .int .u8 0, .int .u8 0, .int .u8 0, .int .u8 0, .int .u8 0, .int .u8 0] 22)).heap.size = w.heap.size + 1 + 1 + 1 + 1) := Lib.hid (by simp)
  generalize World.alloc (World.alloc (World.alloc (World.alloc _ _) _) _) _ = W0 at *
  go_wp2_with (first | (refine wpList_load22 rfl rfl rfl HX.out.1.1.1.1 ?_) | (go_at_call 49; refine (moved_any _ _).mono ?_; rintro e w1 ⟨rfl, rfl⟩))
  refine wp_of_wpIn HF n ?_
  have hA2 := R16.new W0 (bN f) (bA_size _) (bA_one _)
  rw [HS0.out] at hA2 ⊢
  have HXA := Lib.hid (HX.out.keep ((Below.refl _ W0).alloc (Nat.le_refl _) (.cells (bN f) 22)))
  have HSA : Hid (w.heap.size + 1 + 1 + 1 + 1 < (W0.alloc (.cells (bN f) 22)).heap.size) := Lib.hid (by rw [World.size_alloc, HS0.out]; omega)
  generalize World.alloc W0 _ = W1 at *
  have hst := moved_stops F HF (n - 1) h54 hro (by omega) (w.heap.size + 1 + 1 + 1 + 1) f hf W1 HSA.out (fun i hi => RB.cell hA2 i hi)
  refine wpIn_rangeFunc_ownG hro h1 (gf := 54) (lb := #[.pointer (some ⟨w.heap.size + 1 + 1 + 1 + 1, 0, none⟩)]) rfl h54 (enters_of Try.func54 (by kernel_rfl) rfl)
    hst kpM_t (kpM_b HSA.out) (Below.refl _ _) (fun _ => rfl)
    (fun pre W => RK w f g (wr pre) W)
    (fun _ _ _ => False)
    (RK.own w f g (fun pre => wr pre) _ HXA.out.2.size)
    (fun _ _ _ _ _ hs _ _ => hs)
    HXA.out
    (fun x => { tmps := #[Value.agg (bN f), Value.agg (bN g), .func (.func 42) #[] #[], Value.pointer (some { block := w.heap.size, off := 0 }),
        Value.pointer (some { block := w.heap.size + 1, off := 0 }), undef,
        Value.pointer (some { block := w.heap.size + 1 + 1, off := 0 }), Value.pointer (some { block := w.heap.size + 1 + 1 + 1, off := 0 }), .int .i64 (x.1.1 : Int), .int .u8 ((x.1.2 : Nat) : Int), undef, undef, undef, Value.agg (bN f),
        Value.func (Fn.func 54) #[] #[Value.pointer (some { block := w.heap.size + 1 + 1 + 1 + 1, off := 0 })], .int .i64 (x.1.1 : Int), .int .u8 ((x.1.2 : Nat) : Int), undef, undef, undef, undef, undef, undef, undef, undef, undef, undef, undef, undef, undef, undef, undef, undef, undef, undef, undef, undef, undef, undef, undef, undef, undef, undef, undef, undef, undef, undef, undef, undef, undef, undef, undef, undef, undef, undef, undef, undef, undef, undef], defers := [] }) ?assign ?body ?done ?stop
  case assign =>
    intro l x W K hK
    gi_wp2
    exact hK
  case body =>
    rintro l pre x W hR _
    have HR := Lib.hid hR
    clear hR
    have hx := x.2
    have hc1 := RB.cell HR.out.1.2 x.1.1 hx
    have hf1 := RB.froz HR.out.1.2 x.1.1
    have hxI : (x.1.1 : Int) < 16 := by omega
    gi_wp2
    refine ⟨(KeepsOthers.setCell _ _ _).from _, ⟨fun i hi => far _ _ _ _ (by dsimp only; omega), by simp⟩, HR.out.set x.1.1 x.1.2 hx (fun j hj => ?_)⟩
    rw [wr_snoc]
    by_cases e : x.1.1 = j
    · rw [if_pos e, if_pos e.symm]
    · rw [if_neg e, if_neg (fun z => e z.symm)]
  case done =>
    rintro D ys W hD rfl hR hK
    have hR2 : RK w f g (sB f) W := by
      refine ⟨⟨hR.1.1, ?_⟩, hR.2⟩
      have := hR.1.2
      rwa [bN_congr (fun j hj => wr_mov f j hj)] at this
    have hD2 : w.heap.size + 1 + 1 + 1 < D := by have := HSA.out; omega
    have HN := Lib.hid (show NS w f g (sB f) D W from ⟨hR2, hK⟩)
    clear hR hK hR2 hD
    have HMC := Lib.hid (mix_any)
    have HML := Lib.hid (mixN_lt)
    generalize hMe : mixN = M at *
    have HME := Lib.hid hMe
    clear hMe
    have HSL := Lib.hid (sB_lt f)
    generalize hSe : sB f = s at *
    have HSE := Lib.hid hSe
    clear hSe
    go_wp2_with fail
    go_loopw [10] (fun v W => ∃ q : Nat, q ≤ 4 ∧ v = .int .i64 ((4 * q : Nat) : Int) ∧ NS w f g (uK M s g (4 * q)) D W) (fun v _ => 16 - (intOf v).toNat)
    case atStart => exact ⟨0, by omega, rfl, by rw [show 4 * 0 = 0 from rfl, uK_zero]; exact HN.out⟩
    case round =>
      obtain ⟨q, hq, rfl, hX⟩ := hrel
      have hS := Lib.hid hX
      clear hX
      by_cases hq4 : q < 4
      · obtain rfl | rfl | rfl | rfl : q = 0 ∨ q = 1 ∨ q = 2 ∨ q = 3 := by omega
        · go_upto_region 9 with fail
          have hC : ∀ W, Calls Try.prog 42 #[.agg #[.int .u8 (s 0 : Nat), .int .u8 (s 1 : Nat), .int .u8 (s 2 : Nat), .int .u8 (s 3 : Nat)]] W fun e w' => e = .returned (.agg (qA (M (fun r => s (0 + r))))) ∧ Below W.heap.size W w' := fun W => HMC.out (fun r => s (0 + r)) (fun _ => HSL.out _) W
          have HC := Lib.hid hC
          clear hC
          have hV := HML.out (fun r => s (0 + r)) (fun _ => HSL.out _)
          generalize hcol : M (fun r => s (0 + r)) = V at *
          have HV := Lib.hid hV
          have HCOL := Lib.hid hcol
          clear hV hcol
          refine wp_region_noPanic ?_
          refine wp_region_held_drew (S := fun W => NS w f g (uK M s g (4 * 0)) D W) (by kernel_rfl) ?_ (fun hHeld => ?_)
          · exact hS.out.keep ((Below.refl _ _).drew)
          generalize World.drew _ = v0 at hHeld ⊢
          refine wpAnyH_take (i := 0) (v := ?_) rfl (by kernel_rfl) (by kernel_rfl) (by kernel_rfl) (fun _ _ _ h => h) (Or.inl ⟨by kernel_rfl, ?_⟩) (by assumption) ?_
          rotate_left
          · intro w hSw
            go_simp
            try with_reducible rfl
          simp only [Act.put, List.setIfInBounds_toArray, List.set_cons_zero, List.set_cons_succ, List.getElem_toArray, List.getElem_cons_succ, List.getElem_cons_zero]
          refine wpAnyH_take (i := 1) (v := ?_) rfl (by kernel_rfl) (by kernel_rfl) (by kernel_rfl) (fun _ _ _ h => h) (Or.inl ⟨by kernel_rfl, ?_⟩) (by assumption) ?_
          rotate_left
          · intro w hSw
            go_simp
            try with_reducible rfl
          simp only [Act.put, List.setIfInBounds_toArray, List.set_cons_zero, List.set_cons_succ, List.getElem_toArray, List.getElem_cons_succ, List.getElem_cons_zero]
          refine wpAnyH_take (i := 2) (v := ?_) rfl (by kernel_rfl) (by kernel_rfl) (by kernel_rfl) (fun _ _ _ h => h) (Or.inl ⟨by kernel_rfl, ?_⟩) (by assumption) ?_
          rotate_left
          · intro w hSw
            go_simp
            try with_reducible rfl
          simp only [Act.put, List.setIfInBounds_toArray, List.set_cons_zero, List.set_cons_succ, List.getElem_toArray, List.getElem_cons_succ, List.getElem_cons_zero]
          refine wpAnyH_take (i := 3) (v := ?_) rfl (by kernel_rfl) (by kernel_rfl) (by kernel_rfl) (fun _ _ _ h => h) (Or.inl ⟨by kernel_rfl, ?_⟩) (by assumption) ?_
          rotate_left
          · intro w hSw
            have c0 := NS.at hSw 0 (by omega) (by omega)
            go_simp
            try with_reducible rfl
          simp only [Act.put, List.setIfInBounds_toArray, List.set_cons_zero, List.set_cons_succ, List.getElem_toArray, List.getElem_cons_succ, List.getElem_cons_zero]
          refine wpAnyH_take (i := 4) (v := ?_) rfl (by kernel_rfl) (by kernel_rfl) (by kernel_rfl) (fun _ _ _ h => h) (Or.inl ⟨by kernel_rfl, ?_⟩) (by assumption) ?_
          rotate_left
          · intro w hSw
            go_simp
            try with_reducible rfl
          simp only [Act.put, List.setIfInBounds_toArray, List.set_cons_zero, List.set_cons_succ, List.getElem_toArray, List.getElem_cons_succ, List.getElem_cons_zero]
          refine wpAnyH_take (i := 5) (v := ?_) rfl (by kernel_rfl) (by kernel_rfl) (by kernel_rfl) (fun _ _ _ h => h) (Or.inl ⟨by kernel_rfl, ?_⟩) (by assumption) ?_
          rotate_left
          · intro w hSw
            go_simp
            rw [show IntKind.i64.wrap 1 = 1 from by decide]
            try with_reducible rfl
          simp only [Act.put, List.setIfInBounds_toArray, List.set_cons_zero, List.set_cons_succ, List.getElem_toArray, List.getElem_cons_succ, List.getElem_cons_zero]
          refine wpAnyH_take (i := 6) (v := ?_) rfl (by kernel_rfl) (by kernel_rfl) (by kernel_rfl) (fun _ _ _ h => h) (Or.inl ⟨by kernel_rfl, ?_⟩) (by assumption) ?_
          rotate_left
          · intro w hSw
            go_simp
            try with_reducible rfl
          simp only [Act.put, List.setIfInBounds_toArray, List.set_cons_zero, List.set_cons_succ, List.getElem_toArray, List.getElem_cons_succ, List.getElem_cons_zero]
          refine wpAnyH_take (i := 7) (v := ?_) rfl (by kernel_rfl) (by kernel_rfl) (by kernel_rfl) (fun _ _ _ h => h) (Or.inl ⟨by kernel_rfl, ?_⟩) (by assumption) ?_
          rotate_left
          · intro w hSw
            have c0 := NS.at hSw 1 (by omega) (by omega)
            go_simp
            try with_reducible rfl
          simp only [Act.put, List.setIfInBounds_toArray, List.set_cons_zero, List.set_cons_succ, List.getElem_toArray, List.getElem_cons_succ, List.getElem_cons_zero]
          refine wpAnyH_take (i := 8) (v := ?_) rfl (by kernel_rfl) (by kernel_rfl) (by kernel_rfl) (fun _ _ _ h => h) (Or.inl ⟨by kernel_rfl, ?_⟩) (by assumption) ?_
          rotate_left
          · intro w hSw
            go_simp
            try with_reducible rfl
          simp only [Act.put, List.setIfInBounds_toArray, List.set_cons_zero, List.set_cons_succ, List.getElem_toArray, List.getElem_cons_succ, List.getElem_cons_zero]
          refine wpAnyH_take (i := 9) (v := ?_) rfl (by kernel_rfl) (by kernel_rfl) (by kernel_rfl) (fun _ _ _ h => h) (Or.inl ⟨by kernel_rfl, ?_⟩) (by assumption) ?_
          rotate_left
          · intro w hSw
            go_simp
            rw [show IntKind.i64.wrap 2 = 2 from by decide]
            try with_reducible rfl
          simp only [Act.put, List.setIfInBounds_toArray, List.set_cons_zero, List.set_cons_succ, List.getElem_toArray, List.getElem_cons_succ, List.getElem_cons_zero]
          refine wpAnyH_take (i := 10) (v := ?_) rfl (by kernel_rfl) (by kernel_rfl) (by kernel_rfl) (fun _ _ _ h => h) (Or.inl ⟨by kernel_rfl, ?_⟩) (by assumption) ?_
          rotate_left
          · intro w hSw
            go_simp
            try with_reducible rfl
          simp only [Act.put, List.setIfInBounds_toArray, List.set_cons_zero, List.set_cons_succ, List.getElem_toArray, List.getElem_cons_succ, List.getElem_cons_zero]
          refine wpAnyH_take (i := 11) (v := ?_) rfl (by kernel_rfl) (by kernel_rfl) (by kernel_rfl) (fun _ _ _ h => h) (Or.inl ⟨by kernel_rfl, ?_⟩) (by assumption) ?_
          rotate_left
          · intro w hSw
            have c0 := NS.at hSw 2 (by omega) (by omega)
            go_simp
            try with_reducible rfl
          simp only [Act.put, List.setIfInBounds_toArray, List.set_cons_zero, List.set_cons_succ, List.getElem_toArray, List.getElem_cons_succ, List.getElem_cons_zero]
          refine wpAnyH_take (i := 12) (v := ?_) rfl (by kernel_rfl) (by kernel_rfl) (by kernel_rfl) (fun _ _ _ h => h) (Or.inl ⟨by kernel_rfl, ?_⟩) (by assumption) ?_
          rotate_left
          · intro w hSw
            go_simp
            try with_reducible rfl
          simp only [Act.put, List.setIfInBounds_toArray, List.set_cons_zero, List.set_cons_succ, List.getElem_toArray, List.getElem_cons_succ, List.getElem_cons_zero]
          refine wpAnyH_take (i := 13) (v := ?_) rfl (by kernel_rfl) (by kernel_rfl) (by kernel_rfl) (fun _ _ _ h => h) (Or.inl ⟨by kernel_rfl, ?_⟩) (by assumption) ?_
          rotate_left
          · intro w hSw
            go_simp
            rw [show IntKind.i64.wrap 3 = 3 from by decide]
            try with_reducible rfl
          simp only [Act.put, List.setIfInBounds_toArray, List.set_cons_zero, List.set_cons_succ, List.getElem_toArray, List.getElem_cons_succ, List.getElem_cons_zero]
          refine wpAnyH_take (i := 14) (v := ?_) rfl (by kernel_rfl) (by kernel_rfl) (by kernel_rfl) (fun _ _ _ h => h) (Or.inl ⟨by kernel_rfl, ?_⟩) (by assumption) ?_
          rotate_left
          · intro w hSw
            go_simp
            try with_reducible rfl
          simp only [Act.put, List.setIfInBounds_toArray, List.set_cons_zero, List.set_cons_succ, List.getElem_toArray, List.getElem_cons_succ, List.getElem_cons_zero]
          refine wpAnyH_take (i := 15) (v := ?_) rfl (by kernel_rfl) (by kernel_rfl) (by kernel_rfl) (fun _ _ _ h => h) (Or.inl ⟨by kernel_rfl, ?_⟩) (by assumption) ?_
          rotate_left
          · intro w hSw
            have c0 := NS.at hSw 3 (by omega) (by omega)
            go_simp
            try with_reducible rfl
          simp only [Act.put, List.setIfInBounds_toArray, List.set_cons_zero, List.set_cons_succ, List.getElem_toArray, List.getElem_cons_succ, List.getElem_cons_zero]
          refine wpAnyH_take (i := 16) (v := ?_) rfl (by kernel_rfl) (by kernel_rfl) (by kernel_rfl) (fun _ _ _ h => h) (Or.inl ⟨by kernel_rfl, ?_⟩) (by assumption) ?_
          rotate_left
          · intro w hSw
            go_simp
            try with_reducible rfl
          simp only [Act.put, List.setIfInBounds_toArray, List.set_cons_zero, List.set_cons_succ, List.getElem_toArray, List.getElem_cons_succ, List.getElem_cons_zero]
          refine wpAnyH_take (i := 18) (v := ?_) rfl (by kernel_rfl) (by kernel_rfl) (by kernel_rfl) (fun _ _ _ h => h) (Or.inl ⟨by kernel_rfl, ?_⟩) (by assumption) ?_
          rotate_left
          · intro w hSw
            go_simp
            try with_reducible rfl
          simp only [Act.put, List.setIfInBounds_toArray, List.set_cons_zero, List.set_cons_succ, List.getElem_toArray, List.getElem_cons_succ, List.getElem_cons_zero]
          refine wpAnyH_ready (rs := [17]) (by kernel_rfl) (by simp) ?_
          refine AllReadyH.cons rfl (fun K hK => ?_) AllReadyH.nil
          go_simp
          go_at_call 42
          (with_reducible refine (HC.out _).mono ?_)
          rintro e w9 ⟨rfl, hb9⟩
          refine hK.out _ _ (hHeld.keep hb9) (fun hHeld2 => ?_)
          clear hK K hHeld hb9
          have hHeld := hHeld2
          clear hHeld2
          try simp only [Act.put, List.setIfInBounds_toArray, List.set_cons_zero, List.set_cons_succ, List.getElem_toArray, List.getElem_cons_succ, List.getElem_cons_zero]
          refine wpAnyH_done (by kernel_rfl) ?_ _
          refine NoPanic.normal ?_
          have HS2 : Hid (NS w f g (uK M s g (0 + 0)) D _) := Lib.hid hHeld
          clear hHeld hS
          go_wp2_with fail
          go_loopw [42] (fun v W => ∃ r : Nat, r ≤ 4 ∧ v = .int .i64 r ∧ NS w f g (uK M s g (0 + r)) D W) (fun v _ => 4 - (intOf v).toNat)
          case atStart => exact ⟨0, by omega, rfl, HS2.out⟩
          case round =>
            obtain ⟨r, hr, rfl, hX⟩ := hrel
            have hS := Lib.hid hX
            clear hX
            by_cases hr4 : r < 4
            · have c0 := hS.out.key (0 + r) (by omega)
              have c1 := hS.out.at (0 + r) (by omega) (by omega)
              have f1 := hS.out.froz (0 + r)
              have i1 := fun W => index51 V r hr4 W
              have HE := Lib.hid (xor8 (V r) (g (0 + r)) (HV.out r) (HG.out _))
              have hnx := hS.out.next 0 r hD2 (by omega) hr4 (by decide)
              rw [HCOL.out, ← HE.out] at hnx
              have HNX := Lib.hid hnx
              clear hnx
              try simp only [Nat.zero_add] at c0 c1 f1 HE HNX
              go_wp2_with fail
              exact ⟨⟨r + 1, by omega, by simp, (by first | exact HNX.out | (rw [Nat.zero_add]; exact HNX.out))⟩, by simp [intOf]; omega⟩
            · obtain rfl : r = 4 := by omega
              have HS3 : Hid (NS w f g (uK M s g (4 * 1)) D _) := Lib.hid hS.out
              clear hS
              go_wp2
              exact ⟨⟨1, by omega, by simp, HS3.out⟩, by simp [intOf]⟩
        · go_upto_region 9 with fail
          have hC : ∀ W, Calls Try.prog 42 #[.agg #[.int .u8 (s 4 : Nat), .int .u8 (s 5 : Nat), .int .u8 (s 6 : Nat), .int .u8 (s 7 : Nat)]] W fun e w' => e = .returned (.agg (qA (M (fun r => s (4 + r))))) ∧ Below W.heap.size W w' := fun W => HMC.out (fun r => s (4 + r)) (fun _ => HSL.out _) W
          have HC := Lib.hid hC
          clear hC
          have hV := HML.out (fun r => s (4 + r)) (fun _ => HSL.out _)
          generalize hcol : M (fun r => s (4 + r)) = V at *
          have HV := Lib.hid hV
          have HCOL := Lib.hid hcol
          clear hV hcol
          refine wp_region_noPanic ?_
          refine wp_region_held_drew (S := fun W => NS w f g (uK M s g (4 * 1)) D W) (by kernel_rfl) ?_ (fun hHeld => ?_)
          · exact hS.out.keep ((Below.refl _ _).drew)
          generalize World.drew _ = v0 at hHeld ⊢
          refine wpAnyH_take (i := 0) (v := ?_) rfl (by kernel_rfl) (by kernel_rfl) (by kernel_rfl) (fun _ _ _ h => h) (Or.inl ⟨by kernel_rfl, ?_⟩) (by assumption) ?_
          rotate_left
          · intro w hSw
            go_simp
            try with_reducible rfl
          simp only [Act.put, List.setIfInBounds_toArray, List.set_cons_zero, List.set_cons_succ, List.getElem_toArray, List.getElem_cons_succ, List.getElem_cons_zero]
          refine wpAnyH_take (i := 1) (v := ?_) rfl (by kernel_rfl) (by kernel_rfl) (by kernel_rfl) (fun _ _ _ h => h) (Or.inl ⟨by kernel_rfl, ?_⟩) (by assumption) ?_
          rotate_left
          · intro w hSw
            go_simp
            try with_reducible rfl
          simp only [Act.put, List.setIfInBounds_toArray, List.set_cons_zero, List.set_cons_succ, List.getElem_toArray, List.getElem_cons_succ, List.getElem_cons_zero]
          refine wpAnyH_take (i := 2) (v := ?_) rfl (by kernel_rfl) (by kernel_rfl) (by kernel_rfl) (fun _ _ _ h => h) (Or.inl ⟨by kernel_rfl, ?_⟩) (by assumption) ?_
          rotate_left
          · intro w hSw
            go_simp
            try with_reducible rfl
          simp only [Act.put, List.setIfInBounds_toArray, List.set_cons_zero, List.set_cons_succ, List.getElem_toArray, List.getElem_cons_succ, List.getElem_cons_zero]
          refine wpAnyH_take (i := 3) (v := ?_) rfl (by kernel_rfl) (by kernel_rfl) (by kernel_rfl) (fun _ _ _ h => h) (Or.inl ⟨by kernel_rfl, ?_⟩) (by assumption) ?_
          rotate_left
          · intro w hSw
            have c0 := NS.at hSw 4 (by omega) (by omega)
            go_simp
            try with_reducible rfl
          simp only [Act.put, List.setIfInBounds_toArray, List.set_cons_zero, List.set_cons_succ, List.getElem_toArray, List.getElem_cons_succ, List.getElem_cons_zero]
          refine wpAnyH_take (i := 4) (v := ?_) rfl (by kernel_rfl) (by kernel_rfl) (by kernel_rfl) (fun _ _ _ h => h) (Or.inl ⟨by kernel_rfl, ?_⟩) (by assumption) ?_
          rotate_left
          · intro w hSw
            go_simp
            try with_reducible rfl
          simp only [Act.put, List.setIfInBounds_toArray, List.set_cons_zero, List.set_cons_succ, List.getElem_toArray, List.getElem_cons_succ, List.getElem_cons_zero]
          refine wpAnyH_take (i := 5) (v := ?_) rfl (by kernel_rfl) (by kernel_rfl) (by kernel_rfl) (fun _ _ _ h => h) (Or.inl ⟨by kernel_rfl, ?_⟩) (by assumption) ?_
          rotate_left
          · intro w hSw
            go_simp
            rw [show IntKind.i64.wrap 5 = 5 from by decide]
            try with_reducible rfl
          simp only [Act.put, List.setIfInBounds_toArray, List.set_cons_zero, List.set_cons_succ, List.getElem_toArray, List.getElem_cons_succ, List.getElem_cons_zero]
          refine wpAnyH_take (i := 6) (v := ?_) rfl (by kernel_rfl) (by kernel_rfl) (by kernel_rfl) (fun _ _ _ h => h) (Or.inl ⟨by kernel_rfl, ?_⟩) (by assumption) ?_
          rotate_left
          · intro w hSw
            go_simp
            try with_reducible rfl
          simp only [Act.put, List.setIfInBounds_toArray, List.set_cons_zero, List.set_cons_succ, List.getElem_toArray, List.getElem_cons_succ, List.getElem_cons_zero]
          refine wpAnyH_take (i := 7) (v := ?_) rfl (by kernel_rfl) (by kernel_rfl) (by kernel_rfl) (fun _ _ _ h => h) (Or.inl ⟨by kernel_rfl, ?_⟩) (by assumption) ?_
          rotate_left
          · intro w hSw
            have c0 := NS.at hSw 5 (by omega) (by omega)
            go_simp
            try with_reducible rfl
          simp only [Act.put, List.setIfInBounds_toArray, List.set_cons_zero, List.set_cons_succ, List.getElem_toArray, List.getElem_cons_succ, List.getElem_cons_zero]
          refine wpAnyH_take (i := 8) (v := ?_) rfl (by kernel_rfl) (by kernel_rfl) (by kernel_rfl) (fun _ _ _ h => h) (Or.inl ⟨by kernel_rfl, ?_⟩) (by assumption) ?_
          rotate_left
          · intro w hSw
            go_simp
            try with_reducible rfl
          simp only [Act.put, List.setIfInBounds_toArray, List.set_cons_zero, List.set_cons_succ, List.getElem_toArray, List.getElem_cons_succ, List.getElem_cons_zero]
          refine wpAnyH_take (i := 9) (v := ?_) rfl (by kernel_rfl) (by kernel_rfl) (by kernel_rfl) (fun _ _ _ h => h) (Or.inl ⟨by kernel_rfl, ?_⟩) (by assumption) ?_
          rotate_left
          · intro w hSw
            go_simp
            rw [show IntKind.i64.wrap 6 = 6 from by decide]
            try with_reducible rfl
          simp only [Act.put, List.setIfInBounds_toArray, List.set_cons_zero, List.set_cons_succ, List.getElem_toArray, List.getElem_cons_succ, List.getElem_cons_zero]
          refine wpAnyH_take (i := 10) (v := ?_) rfl (by kernel_rfl) (by kernel_rfl) (by kernel_rfl) (fun _ _ _ h => h) (Or.inl ⟨by kernel_rfl, ?_⟩) (by assumption) ?_
          rotate_left
          · intro w hSw
            go_simp
            try with_reducible rfl
          simp only [Act.put, List.setIfInBounds_toArray, List.set_cons_zero, List.set_cons_succ, List.getElem_toArray, List.getElem_cons_succ, List.getElem_cons_zero]
          refine wpAnyH_take (i := 11) (v := ?_) rfl (by kernel_rfl) (by kernel_rfl) (by kernel_rfl) (fun _ _ _ h => h) (Or.inl ⟨by kernel_rfl, ?_⟩) (by assumption) ?_
          rotate_left
          · intro w hSw
            have c0 := NS.at hSw 6 (by omega) (by omega)
            go_simp
            try with_reducible rfl
          simp only [Act.put, List.setIfInBounds_toArray, List.set_cons_zero, List.set_cons_succ, List.getElem_toArray, List.getElem_cons_succ, List.getElem_cons_zero]
          refine wpAnyH_take (i := 12) (v := ?_) rfl (by kernel_rfl) (by kernel_rfl) (by kernel_rfl) (fun _ _ _ h => h) (Or.inl ⟨by kernel_rfl, ?_⟩) (by assumption) ?_
          rotate_left
          · intro w hSw
            go_simp
            try with_reducible rfl
          simp only [Act.put, List.setIfInBounds_toArray, List.set_cons_zero, List.set_cons_succ, List.getElem_toArray, List.getElem_cons_succ, List.getElem_cons_zero]
          refine wpAnyH_take (i := 13) (v := ?_) rfl (by kernel_rfl) (by kernel_rfl) (by kernel_rfl) (fun _ _ _ h => h) (Or.inl ⟨by kernel_rfl, ?_⟩) (by assumption) ?_
          rotate_left
          · intro w hSw
            go_simp
            rw [show IntKind.i64.wrap 7 = 7 from by decide]
            try with_reducible rfl
          simp only [Act.put, List.setIfInBounds_toArray, List.set_cons_zero, List.set_cons_succ, List.getElem_toArray, List.getElem_cons_succ, List.getElem_cons_zero]
          refine wpAnyH_take (i := 14) (v := ?_) rfl (by kernel_rfl) (by kernel_rfl) (by kernel_rfl) (fun _ _ _ h => h) (Or.inl ⟨by kernel_rfl, ?_⟩) (by assumption) ?_
          rotate_left
          · intro w hSw
            go_simp
            try with_reducible rfl
          simp only [Act.put, List.setIfInBounds_toArray, List.set_cons_zero, List.set_cons_succ, List.getElem_toArray, List.getElem_cons_succ, List.getElem_cons_zero]
          refine wpAnyH_take (i := 15) (v := ?_) rfl (by kernel_rfl) (by kernel_rfl) (by kernel_rfl) (fun _ _ _ h => h) (Or.inl ⟨by kernel_rfl, ?_⟩) (by assumption) ?_
          rotate_left
          · intro w hSw
            have c0 := NS.at hSw 7 (by omega) (by omega)
            go_simp
            try with_reducible rfl
          simp only [Act.put, List.setIfInBounds_toArray, List.set_cons_zero, List.set_cons_succ, List.getElem_toArray, List.getElem_cons_succ, List.getElem_cons_zero]
          refine wpAnyH_take (i := 16) (v := ?_) rfl (by kernel_rfl) (by kernel_rfl) (by kernel_rfl) (fun _ _ _ h => h) (Or.inl ⟨by kernel_rfl, ?_⟩) (by assumption) ?_
          rotate_left
          · intro w hSw
            go_simp
            try with_reducible rfl
          simp only [Act.put, List.setIfInBounds_toArray, List.set_cons_zero, List.set_cons_succ, List.getElem_toArray, List.getElem_cons_succ, List.getElem_cons_zero]
          refine wpAnyH_take (i := 18) (v := ?_) rfl (by kernel_rfl) (by kernel_rfl) (by kernel_rfl) (fun _ _ _ h => h) (Or.inl ⟨by kernel_rfl, ?_⟩) (by assumption) ?_
          rotate_left
          · intro w hSw
            go_simp
            try with_reducible rfl
          simp only [Act.put, List.setIfInBounds_toArray, List.set_cons_zero, List.set_cons_succ, List.getElem_toArray, List.getElem_cons_succ, List.getElem_cons_zero]
          refine wpAnyH_ready (rs := [17]) (by kernel_rfl) (by simp) ?_
          refine AllReadyH.cons rfl (fun K hK => ?_) AllReadyH.nil
          go_simp
          go_at_call 42
          (with_reducible refine (HC.out _).mono ?_)
          rintro e w9 ⟨rfl, hb9⟩
          refine hK.out _ _ (hHeld.keep hb9) (fun hHeld2 => ?_)
          clear hK K hHeld hb9
          have hHeld := hHeld2
          clear hHeld2
          try simp only [Act.put, List.setIfInBounds_toArray, List.set_cons_zero, List.set_cons_succ, List.getElem_toArray, List.getElem_cons_succ, List.getElem_cons_zero]
          refine wpAnyH_done (by kernel_rfl) ?_ _
          refine NoPanic.normal ?_
          have HS2 : Hid (NS w f g (uK M s g (4 + 0)) D _) := Lib.hid hHeld
          clear hHeld hS
          go_wp2_with fail
          go_loopw [42] (fun v W => ∃ r : Nat, r ≤ 4 ∧ v = .int .i64 r ∧ NS w f g (uK M s g (4 + r)) D W) (fun v _ => 4 - (intOf v).toNat)
          case atStart => exact ⟨0, by omega, rfl, HS2.out⟩
          case round =>
            obtain ⟨r, hr, rfl, hX⟩ := hrel
            have hS := Lib.hid hX
            clear hX
            by_cases hr4 : r < 4
            · have c0 := hS.out.key (4 + r) (by omega)
              have c1 := hS.out.at (4 + r) (by omega) (by omega)
              have f1 := hS.out.froz (4 + r)
              have i1 := fun W => index51 V r hr4 W
              have HE := Lib.hid (xor8 (V r) (g (4 + r)) (HV.out r) (HG.out _))
              have hnx := hS.out.next 4 r hD2 (by omega) hr4 (by decide)
              rw [HCOL.out, ← HE.out] at hnx
              have HNX := Lib.hid hnx
              clear hnx
              try simp only [Nat.zero_add] at c0 c1 f1 HE HNX
              go_wp2_with fail
              exact ⟨⟨r + 1, by omega, by simp, (by first | exact HNX.out | (rw [Nat.zero_add]; exact HNX.out))⟩, by simp [intOf]; omega⟩
            · obtain rfl : r = 4 := by omega
              have HS3 : Hid (NS w f g (uK M s g (4 * 2)) D _) := Lib.hid hS.out
              clear hS
              go_wp2
              exact ⟨⟨2, by omega, by simp, HS3.out⟩, by simp [intOf]⟩
        · go_upto_region 9 with fail
          have hC : ∀ W, Calls Try.prog 42 #[.agg #[.int .u8 (s 8 : Nat), .int .u8 (s 9 : Nat), .int .u8 (s 10 : Nat), .int .u8 (s 11 : Nat)]] W fun e w' => e = .returned (.agg (qA (M (fun r => s (8 + r))))) ∧ Below W.heap.size W w' := fun W => HMC.out (fun r => s (8 + r)) (fun _ => HSL.out _) W
          have HC := Lib.hid hC
          clear hC
          have hV := HML.out (fun r => s (8 + r)) (fun _ => HSL.out _)
          generalize hcol : M (fun r => s (8 + r)) = V at *
          have HV := Lib.hid hV
          have HCOL := Lib.hid hcol
          clear hV hcol
          refine wp_region_noPanic ?_
          refine wp_region_held_drew (S := fun W => NS w f g (uK M s g (4 * 2)) D W) (by kernel_rfl) ?_ (fun hHeld => ?_)
          · exact hS.out.keep ((Below.refl _ _).drew)
          generalize World.drew _ = v0 at hHeld ⊢
          refine wpAnyH_take (i := 0) (v := ?_) rfl (by kernel_rfl) (by kernel_rfl) (by kernel_rfl) (fun _ _ _ h => h) (Or.inl ⟨by kernel_rfl, ?_⟩) (by assumption) ?_
          rotate_left
          · intro w hSw
            go_simp
            try with_reducible rfl
          simp only [Act.put, List.setIfInBounds_toArray, List.set_cons_zero, List.set_cons_succ, List.getElem_toArray, List.getElem_cons_succ, List.getElem_cons_zero]
          refine wpAnyH_take (i := 1) (v := ?_) rfl (by kernel_rfl) (by kernel_rfl) (by kernel_rfl) (fun _ _ _ h => h) (Or.inl ⟨by kernel_rfl, ?_⟩) (by assumption) ?_
          rotate_left
          · intro w hSw
            go_simp
            try with_reducible rfl
          simp only [Act.put, List.setIfInBounds_toArray, List.set_cons_zero, List.set_cons_succ, List.getElem_toArray, List.getElem_cons_succ, List.getElem_cons_zero]
          refine wpAnyH_take (i := 2) (v := ?_) rfl (by kernel_rfl) (by kernel_rfl) (by kernel_rfl) (fun _ _ _ h => h) (Or.inl ⟨by kernel_rfl, ?_⟩) (by assumption) ?_
          rotate_left
          · intro w hSw
            go_simp
            try with_reducible rfl
          simp only [Act.put, List.setIfInBounds_toArray, List.set_cons_zero, List.set_cons_succ, List.getElem_toArray, List.getElem_cons_succ, List.getElem_cons_zero]
          refine wpAnyH_take (i := 3) (v := ?_) rfl (by kernel_rfl) (by kernel_rfl) (by kernel_rfl) (fun _ _ _ h => h) (Or.inl ⟨by kernel_rfl, ?_⟩) (by assumption) ?_
          rotate_left
          · intro w hSw
            have c0 := NS.at hSw 8 (by omega) (by omega)
            go_simp
            try with_reducible rfl
          simp only [Act.put, List.setIfInBounds_toArray, List.set_cons_zero, List.set_cons_succ, List.getElem_toArray, List.getElem_cons_succ, List.getElem_cons_zero]
          refine wpAnyH_take (i := 4) (v := ?_) rfl (by kernel_rfl) (by kernel_rfl) (by kernel_rfl) (fun _ _ _ h => h) (Or.inl ⟨by kernel_rfl, ?_⟩) (by assumption) ?_
          rotate_left
          · intro w hSw
            go_simp
            try with_reducible rfl
          simp only [Act.put, List.setIfInBounds_toArray, List.set_cons_zero, List.set_cons_succ, List.getElem_toArray, List.getElem_cons_succ, List.getElem_cons_zero]
          refine wpAnyH_take (i := 5) (v := ?_) rfl (by kernel_rfl) (by kernel_rfl) (by kernel_rfl) (fun _ _ _ h => h) (Or.inl ⟨by kernel_rfl, ?_⟩) (by assumption) ?_
          rotate_left
          · intro w hSw
            go_simp
            rw [show IntKind.i64.wrap 9 = 9 from by decide]
            try with_reducible rfl
          simp only [Act.put, List.setIfInBounds_toArray, List.set_cons_zero, List.set_cons_succ, List.getElem_toArray, List.getElem_cons_succ, List.getElem_cons_zero]
          refine wpAnyH_take (i := 6) (v := ?_) rfl (by kernel_rfl) (by kernel_rfl) (by kernel_rfl) (fun _ _ _ h => h) (Or.inl ⟨by kernel_rfl, ?_⟩) (by assumption) ?_
          rotate_left
          · intro w hSw
            go_simp
            try with_reducible rfl
          simp only [Act.put, List.setIfInBounds_toArray, List.set_cons_zero, List.set_cons_succ, List.getElem_toArray, List.getElem_cons_succ, List.getElem_cons_zero]
          refine wpAnyH_take (i := 7) (v := ?_) rfl (by kernel_rfl) (by kernel_rfl) (by kernel_rfl) (fun _ _ _ h => h) (Or.inl ⟨by kernel_rfl, ?_⟩) (by assumption) ?_
          rotate_left
          · intro w hSw
            have c0 := NS.at hSw 9 (by omega) (by omega)
            go_simp
            try with_reducible rfl
          simp only [Act.put, List.setIfInBounds_toArray, List.set_cons_zero, List.set_cons_succ, List.getElem_toArray, List.getElem_cons_succ, List.getElem_cons_zero]
          refine wpAnyH_take (i := 8) (v := ?_) rfl (by kernel_rfl) (by kernel_rfl) (by kernel_rfl) (fun _ _ _ h => h) (Or.inl ⟨by kernel_rfl, ?_⟩) (by assumption) ?_
          rotate_left
          · intro w hSw
            go_simp
            try with_reducible rfl
          simp only [Act.put, List.setIfInBounds_toArray, List.set_cons_zero, List.set_cons_succ, List.getElem_toArray, List.getElem_cons_succ, List.getElem_cons_zero]
          refine wpAnyH_take (i := 9) (v := ?_) rfl (by kernel_rfl) (by kernel_rfl) (by kernel_rfl) (fun _ _ _ h => h) (Or.inl ⟨by kernel_rfl, ?_⟩) (by assumption) ?_
          rotate_left
          · intro w hSw
            go_simp
            rw [show IntKind.i64.wrap 10 = 10 from by decide]
            try with_reducible rfl
          simp only [Act.put, List.setIfInBounds_toArray, List.set_cons_zero, List.set_cons_succ, List.getElem_toArray, List.getElem_cons_succ, List.getElem_cons_zero]
          refine wpAnyH_take (i := 10) (v := ?_) rfl (by kernel_rfl) (by kernel_rfl) (by kernel_rfl) (fun _ _ _ h => h) (Or.inl ⟨by kernel_rfl, ?_⟩) (by assumption) ?_
          rotate_left
          · intro w hSw
            go_simp
            try with_reducible rfl
          simp only [Act.put, List.setIfInBounds_toArray, List.set_cons_zero, List.set_cons_succ, List.getElem_toArray, List.getElem_cons_succ, List.getElem_cons_zero]
          refine wpAnyH_take (i := 11) (v := ?_) rfl (by kernel_rfl) (by kernel_rfl) (by kernel_rfl) (fun _ _ _ h => h) (Or.inl ⟨by kernel_rfl, ?_⟩) (by assumption) ?_
          rotate_left
          · intro w hSw
            have c0 := NS.at hSw 10 (by omega) (by omega)
            go_simp
            try with_reducible rfl
          simp only [Act.put, List.setIfInBounds_toArray, List.set_cons_zero, List.set_cons_succ, List.getElem_toArray, List.getElem_cons_succ, List.getElem_cons_zero]
          refine wpAnyH_take (i := 12) (v := ?_) rfl (by kernel_rfl) (by kernel_rfl) (by kernel_rfl) (fun _ _ _ h => h) (Or.inl ⟨by kernel_rfl, ?_⟩) (by assumption) ?_
          rotate_left
          · intro w hSw
            go_simp
            try with_reducible rfl
          simp only [Act.put, List.setIfInBounds_toArray, List.set_cons_zero, List.set_cons_succ, List.getElem_toArray, List.getElem_cons_succ, List.getElem_cons_zero]
          refine wpAnyH_take (i := 13) (v := ?_) rfl (by kernel_rfl) (by kernel_rfl) (by kernel_rfl) (fun _ _ _ h => h) (Or.inl ⟨by kernel_rfl, ?_⟩) (by assumption) ?_
          rotate_left
          · intro w hSw
            go_simp
            rw [show IntKind.i64.wrap 11 = 11 from by decide]
            try with_reducible rfl
          simp only [Act.put, List.setIfInBounds_toArray, List.set_cons_zero, List.set_cons_succ, List.getElem_toArray, List.getElem_cons_succ, List.getElem_cons_zero]
          refine wpAnyH_take (i := 14) (v := ?_) rfl (by kernel_rfl) (by kernel_rfl) (by kernel_rfl) (fun _ _ _ h => h) (Or.inl ⟨by kernel_rfl, ?_⟩) (by assumption) ?_
          rotate_left
          · intro w hSw
            go_simp
            try with_reducible rfl
          simp only [Act.put, List.setIfInBounds_toArray, List.set_cons_zero, List.set_cons_succ, List.getElem_toArray, List.getElem_cons_succ, List.getElem_cons_zero]
          refine wpAnyH_take (i := 15) (v := ?_) rfl (by kernel_rfl) (by kernel_rfl) (by kernel_rfl) (fun _ _ _ h => h) (Or.inl ⟨by kernel_rfl, ?_⟩) (by assumption) ?_
          rotate_left
          · intro w hSw
            have c0 := NS.at hSw 11 (by omega) (by omega)
            go_simp
            try with_reducible rfl
          simp only [Act.put, List.setIfInBounds_toArray, List.set_cons_zero, List.set_cons_succ, List.getElem_toArray, List.getElem_cons_succ, List.getElem_cons_zero]
          refine wpAnyH_take (i := 16) (v := ?_) rfl (by kernel_rfl) (by kernel_rfl) (by kernel_rfl) (fun _ _ _ h => h) (Or.inl ⟨by kernel_rfl, ?_⟩) (by assumption) ?_
          rotate_left
          · intro w hSw
            go_simp
            try with_reducible rfl
          simp only [Act.put, List.setIfInBounds_toArray, List.set_cons_zero, List.set_cons_succ, List.getElem_toArray, List.getElem_cons_succ, List.getElem_cons_zero]
          refine wpAnyH_take (i := 18) (v := ?_) rfl (by kernel_rfl) (by kernel_rfl) (by kernel_rfl) (fun _ _ _ h => h) (Or.inl ⟨by kernel_rfl, ?_⟩) (by assumption) ?_
          rotate_left
          · intro w hSw
            go_simp
            try with_reducible rfl
          simp only [Act.put, List.setIfInBounds_toArray, List.set_cons_zero, List.set_cons_succ, List.getElem_toArray, List.getElem_cons_succ, List.getElem_cons_zero]
          refine wpAnyH_ready (rs := [17]) (by kernel_rfl) (by simp) ?_
          refine AllReadyH.cons rfl (fun K hK => ?_) AllReadyH.nil
          go_simp
          go_at_call 42
          (with_reducible refine (HC.out _).mono ?_)
          rintro e w9 ⟨rfl, hb9⟩
          refine hK.out _ _ (hHeld.keep hb9) (fun hHeld2 => ?_)
          clear hK K hHeld hb9
          have hHeld := hHeld2
          clear hHeld2
          try simp only [Act.put, List.setIfInBounds_toArray, List.set_cons_zero, List.set_cons_succ, List.getElem_toArray, List.getElem_cons_succ, List.getElem_cons_zero]
          refine wpAnyH_done (by kernel_rfl) ?_ _
          refine NoPanic.normal ?_
          have HS2 : Hid (NS w f g (uK M s g (8 + 0)) D _) := Lib.hid hHeld
          clear hHeld hS
          go_wp2_with fail
          go_loopw [42] (fun v W => ∃ r : Nat, r ≤ 4 ∧ v = .int .i64 r ∧ NS w f g (uK M s g (8 + r)) D W) (fun v _ => 4 - (intOf v).toNat)
          case atStart => exact ⟨0, by omega, rfl, HS2.out⟩
          case round =>
            obtain ⟨r, hr, rfl, hX⟩ := hrel
            have hS := Lib.hid hX
            clear hX
            by_cases hr4 : r < 4
            · have c0 := hS.out.key (8 + r) (by omega)
              have c1 := hS.out.at (8 + r) (by omega) (by omega)
              have f1 := hS.out.froz (8 + r)
              have i1 := fun W => index51 V r hr4 W
              have HE := Lib.hid (xor8 (V r) (g (8 + r)) (HV.out r) (HG.out _))
              have hnx := hS.out.next 8 r hD2 (by omega) hr4 (by decide)
              rw [HCOL.out, ← HE.out] at hnx
              have HNX := Lib.hid hnx
              clear hnx
              try simp only [Nat.zero_add] at c0 c1 f1 HE HNX
              go_wp2_with fail
              exact ⟨⟨r + 1, by omega, by simp, (by first | exact HNX.out | (rw [Nat.zero_add]; exact HNX.out))⟩, by simp [intOf]; omega⟩
            · obtain rfl : r = 4 := by omega
              have HS3 : Hid (NS w f g (uK M s g (4 * 3)) D _) := Lib.hid hS.out
              clear hS
              go_wp2
              exact ⟨⟨3, by omega, by simp, HS3.out⟩, by simp [intOf]⟩
        · go_upto_region 9 with fail
          have hC : ∀ W, Calls Try.prog 42 #[.agg #[.int .u8 (s 12 : Nat), .int .u8 (s 13 : Nat), .int .u8 (s 14 : Nat), .int .u8 (s 15 : Nat)]] W fun e w' => e = .returned (.agg (qA (M (fun r => s (12 + r))))) ∧ Below W.heap.size W w' := fun W => HMC.out (fun r => s (12 + r)) (fun _ => HSL.out _) W
          have HC := Lib.hid hC
          clear hC
          have hV := HML.out (fun r => s (12 + r)) (fun _ => HSL.out _)
          generalize hcol : M (fun r => s (12 + r)) = V at *
          have HV := Lib.hid hV
          have HCOL := Lib.hid hcol
          clear hV hcol
          refine wp_region_noPanic ?_
          refine wp_region_held_drew (S := fun W => NS w f g (uK M s g (4 * 3)) D W) (by kernel_rfl) ?_ (fun hHeld => ?_)
          · exact hS.out.keep ((Below.refl _ _).drew)
          generalize World.drew _ = v0 at hHeld ⊢
          refine wpAnyH_take (i := 0) (v := ?_) rfl (by kernel_rfl) (by kernel_rfl) (by kernel_rfl) (fun _ _ _ h => h) (Or.inl ⟨by kernel_rfl, ?_⟩) (by assumption) ?_
          rotate_left
          · intro w hSw
            go_simp
            try with_reducible rfl
          simp only [Act.put, List.setIfInBounds_toArray, List.set_cons_zero, List.set_cons_succ, List.getElem_toArray, List.getElem_cons_succ, List.getElem_cons_zero]
          refine wpAnyH_take (i := 1) (v := ?_) rfl (by kernel_rfl) (by kernel_rfl) (by kernel_rfl) (fun _ _ _ h => h) (Or.inl ⟨by kernel_rfl, ?_⟩) (by assumption) ?_
          rotate_left
          · intro w hSw
            go_simp
            try with_reducible rfl
          simp only [Act.put, List.setIfInBounds_toArray, List.set_cons_zero, List.set_cons_succ, List.getElem_toArray, List.getElem_cons_succ, List.getElem_cons_zero]
          refine wpAnyH_take (i := 2) (v := ?_) rfl (by kernel_rfl) (by kernel_rfl) (by kernel_rfl) (fun _ _ _ h => h) (Or.inl ⟨by kernel_rfl, ?_⟩) (by assumption) ?_
          rotate_left
          · intro w hSw
            go_simp
            try with_reducible rfl
          simp only [Act.put, List.setIfInBounds_toArray, List.set_cons_zero, List.set_cons_succ, List.getElem_toArray, List.getElem_cons_succ, List.getElem_cons_zero]
          refine wpAnyH_take (i := 3) (v := ?_) rfl (by kernel_rfl) (by kernel_rfl) (by kernel_rfl) (fun _ _ _ h => h) (Or.inl ⟨by kernel_rfl, ?_⟩) (by assumption) ?_
          rotate_left
          · intro w hSw
            have c0 := NS.at hSw 12 (by omega) (by omega)
            go_simp
            try with_reducible rfl
          simp only [Act.put, List.setIfInBounds_toArray, List.set_cons_zero, List.set_cons_succ, List.getElem_toArray, List.getElem_cons_succ, List.getElem_cons_zero]
          refine wpAnyH_take (i := 4) (v := ?_) rfl (by kernel_rfl) (by kernel_rfl) (by kernel_rfl) (fun _ _ _ h => h) (Or.inl ⟨by kernel_rfl, ?_⟩) (by assumption) ?_
          rotate_left
          · intro w hSw
            go_simp
            try with_reducible rfl
          simp only [Act.put, List.setIfInBounds_toArray, List.set_cons_zero, List.set_cons_succ, List.getElem_toArray, List.getElem_cons_succ, List.getElem_cons_zero]
          refine wpAnyH_take (i := 5) (v := ?_) rfl (by kernel_rfl) (by kernel_rfl) (by kernel_rfl) (fun _ _ _ h => h) (Or.inl ⟨by kernel_rfl, ?_⟩) (by assumption) ?_
          rotate_left
          · intro w hSw
            go_simp
            rw [show IntKind.i64.wrap 13 = 13 from by decide]
            try with_reducible rfl
          simp only [Act.put, List.setIfInBounds_toArray, List.set_cons_zero, List.set_cons_succ, List.getElem_toArray, List.getElem_cons_succ, List.getElem_cons_zero]
          refine wpAnyH_take (i := 6) (v := ?_) rfl (by kernel_rfl) (by kernel_rfl) (by kernel_rfl) (fun _ _ _ h => h) (Or.inl ⟨by kernel_rfl, ?_⟩) (by assumption) ?_
          rotate_left
          · intro w hSw
            go_simp
            try with_reducible rfl
          simp only [Act.put, List.setIfInBounds_toArray, List.set_cons_zero, List.set_cons_succ, List.getElem_toArray, List.getElem_cons_succ, List.getElem_cons_zero]
          refine wpAnyH_take (i := 7) (v := ?_) rfl (by kernel_rfl) (by kernel_rfl) (by kernel_rfl) (fun _ _ _ h => h) (Or.inl ⟨by kernel_rfl, ?_⟩) (by assumption) ?_
          rotate_left
          · intro w hSw
            have c0 := NS.at hSw 13 (by omega) (by omega)
            go_simp
            try with_reducible rfl
          simp only [Act.put, List.setIfInBounds_toArray, List.set_cons_zero, List.set_cons_succ, List.getElem_toArray, List.getElem_cons_succ, List.getElem_cons_zero]
          refine wpAnyH_take (i := 8) (v := ?_) rfl (by kernel_rfl) (by kernel_rfl) (by kernel_rfl) (fun _ _ _ h => h) (Or.inl ⟨by kernel_rfl, ?_⟩) (by assumption) ?_
          rotate_left
          · intro w hSw
            go_simp
            try with_reducible rfl
          simp only [Act.put, List.setIfInBounds_toArray, List.set_cons_zero, List.set_cons_succ, List.getElem_toArray, List.getElem_cons_succ, List.getElem_cons_zero]
          refine wpAnyH_take (i := 9) (v := ?_) rfl (by kernel_rfl) (by kernel_rfl) (by kernel_rfl) (fun _ _ _ h => h) (Or.inl ⟨by kernel_rfl, ?_⟩) (by assumption) ?_
          rotate_left
          · intro w hSw
            go_simp
            rw [show IntKind.i64.wrap 14 = 14 from by decide]
            try with_reducible rfl
          simp only [Act.put, List.setIfInBounds_toArray, List.set_cons_zero, List.set_cons_succ, List.getElem_toArray, List.getElem_cons_succ, List.getElem_cons_zero]
          refine wpAnyH_take (i := 10) (v := ?_) rfl (by kernel_rfl) (by kernel_rfl) (by kernel_rfl) (fun _ _ _ h => h) (Or.inl ⟨by kernel_rfl, ?_⟩) (by assumption) ?_
          rotate_left
          · intro w hSw
            go_simp
            try with_reducible rfl
          simp only [Act.put, List.setIfInBounds_toArray, List.set_cons_zero, List.set_cons_succ, List.getElem_toArray, List.getElem_cons_succ, List.getElem_cons_zero]
          refine wpAnyH_take (i := 11) (v := ?_) rfl (by kernel_rfl) (by kernel_rfl) (by kernel_rfl) (fun _ _ _ h => h) (Or.inl ⟨by kernel_rfl, ?_⟩) (by assumption) ?_
          rotate_left
          · intro w hSw
            have c0 := NS.at hSw 14 (by omega) (by omega)
            go_simp
            try with_reducible rfl
          simp only [Act.put, List.setIfInBounds_toArray, List.set_cons_zero, List.set_cons_succ, List.getElem_toArray, List.getElem_cons_succ, List.getElem_cons_zero]
          refine wpAnyH_take (i := 12) (v := ?_) rfl (by kernel_rfl) (by kernel_rfl) (by kernel_rfl) (fun _ _ _ h => h) (Or.inl ⟨by kernel_rfl, ?_⟩) (by assumption) ?_
          rotate_left
          · intro w hSw
            go_simp
            try with_reducible rfl
          simp only [Act.put, List.setIfInBounds_toArray, List.set_cons_zero, List.set_cons_succ, List.getElem_toArray, List.getElem_cons_succ, List.getElem_cons_zero]
          refine wpAnyH_take (i := 13) (v := ?_) rfl (by kernel_rfl) (by kernel_rfl) (by kernel_rfl) (fun _ _ _ h => h) (Or.inl ⟨by kernel_rfl, ?_⟩) (by assumption) ?_
          rotate_left
          · intro w hSw
            go_simp
            rw [show IntKind.i64.wrap 15 = 15 from by decide]
            try with_reducible rfl
          simp only [Act.put, List.setIfInBounds_toArray, List.set_cons_zero, List.set_cons_succ, List.getElem_toArray, List.getElem_cons_succ, List.getElem_cons_zero]
          refine wpAnyH_take (i := 14) (v := ?_) rfl (by kernel_rfl) (by kernel_rfl) (by kernel_rfl) (fun _ _ _ h => h) (Or.inl ⟨by kernel_rfl, ?_⟩) (by assumption) ?_
          rotate_left
          · intro w hSw
            go_simp
            try with_reducible rfl
          simp only [Act.put, List.setIfInBounds_toArray, List.set_cons_zero, List.set_cons_succ, List.getElem_toArray, List.getElem_cons_succ, List.getElem_cons_zero]
          refine wpAnyH_take (i := 15) (v := ?_) rfl (by kernel_rfl) (by kernel_rfl) (by kernel_rfl) (fun _ _ _ h => h) (Or.inl ⟨by kernel_rfl, ?_⟩) (by assumption) ?_
          rotate_left
          · intro w hSw
            have c0 := NS.at hSw 15 (by omega) (by omega)
            go_simp
            try with_reducible rfl
          simp only [Act.put, List.setIfInBounds_toArray, List.set_cons_zero, List.set_cons_succ, List.getElem_toArray, List.getElem_cons_succ, List.getElem_cons_zero]
          refine wpAnyH_take (i := 16) (v := ?_) rfl (by kernel_rfl) (by kernel_rfl) (by kernel_rfl) (fun _ _ _ h => h) (Or.inl ⟨by kernel_rfl, ?_⟩) (by assumption) ?_
          rotate_left
          · intro w hSw
            go_simp
            try with_reducible rfl
          simp only [Act.put, List.setIfInBounds_toArray, List.set_cons_zero, List.set_cons_succ, List.getElem_toArray, List.getElem_cons_succ, List.getElem_cons_zero]
          refine wpAnyH_take (i := 18) (v := ?_) rfl (by kernel_rfl) (by kernel_rfl) (by kernel_rfl) (fun _ _ _ h => h) (Or.inl ⟨by kernel_rfl, ?_⟩) (by assumption) ?_
          rotate_left
          · intro w hSw
            go_simp
            try with_reducible rfl
          simp only [Act.put, List.setIfInBounds_toArray, List.set_cons_zero, List.set_cons_succ, List.getElem_toArray, List.getElem_cons_succ, List.getElem_cons_zero]
          refine wpAnyH_ready (rs := [17]) (by kernel_rfl) (by simp) ?_
          refine AllReadyH.cons rfl (fun K hK => ?_) AllReadyH.nil
          go_simp
          go_at_call 42
          (with_reducible refine (HC.out _).mono ?_)
          rintro e w9 ⟨rfl, hb9⟩
          refine hK.out _ _ (hHeld.keep hb9) (fun hHeld2 => ?_)
          clear hK K hHeld hb9
          have hHeld := hHeld2
          clear hHeld2
          try simp only [Act.put, List.setIfInBounds_toArray, List.set_cons_zero, List.set_cons_succ, List.getElem_toArray, List.getElem_cons_succ, List.getElem_cons_zero]
          refine wpAnyH_done (by kernel_rfl) ?_ _
          refine NoPanic.normal ?_
          have HS2 : Hid (NS w f g (uK M s g (12 + 0)) D _) := Lib.hid hHeld
          clear hHeld hS
          go_wp2_with fail
          go_loopw [42] (fun v W => ∃ r : Nat, r ≤ 4 ∧ v = .int .i64 r ∧ NS w f g (uK M s g (12 + r)) D W) (fun v _ => 4 - (intOf v).toNat)
          case atStart => exact ⟨0, by omega, rfl, HS2.out⟩
          case round =>
            obtain ⟨r, hr, rfl, hX⟩ := hrel
            have hS := Lib.hid hX
            clear hX
            by_cases hr4 : r < 4
            · have c0 := hS.out.key (12 + r) (by omega)
              have c1 := hS.out.at (12 + r) (by omega) (by omega)
              have f1 := hS.out.froz (12 + r)
              have i1 := fun W => index51 V r hr4 W
              have HE := Lib.hid (xor8 (V r) (g (12 + r)) (HV.out r) (HG.out _))
              have hnx := hS.out.next 12 r hD2 (by omega) hr4 (by decide)
              rw [HCOL.out, ← HE.out] at hnx
              have HNX := Lib.hid hnx
              clear hnx
              try simp only [Nat.zero_add] at c0 c1 f1 HE HNX
              go_wp2_with fail
              exact ⟨⟨r + 1, by omega, by simp, (by first | exact HNX.out | (rw [Nat.zero_add]; exact HNX.out))⟩, by simp [intOf]; omega⟩
            · obtain rfl : r = 4 := by omega
              have HS3 : Hid (NS w f g (uK M s g (4 * 4)) D _) := Lib.hid hS.out
              clear hS
              go_wp2
              exact ⟨⟨4, by omega, by simp, HS3.out⟩, by simp [intOf]⟩
      · obtain rfl : q = 4 := by omega
        have HRR := Lib.hid hS.out.1.1.2
        have HZR := Lib.hid hS.out.1.1.1.2
        have HDD := Lib.hid hS.out.2
        have HBB := Lib.hid hS.out.1.2
        clear hS HN
        go_upto_region 14 with fail
        refine wp_region_list ?_
        refine wpList_load22 rfl rfl rfl HRR.out ?_
        refine wpList_store22 rfl rfl rfl rfl HZR.out (bA_size _) (bA_one _) ?_
        simp only [Act.put, List.setIfInBounds_toArray, List.set_cons_zero, List.set_cons_succ, List.getElem_toArray, List.getElem_cons_succ, List.getElem_cons_zero]
        refine wpList_nil ?_
        have h9 := HZR.out.row (bA_size (fun i => ((uK M s g (4 * 4) i : Nat) : Int))) (bA_one _)
        have k1 := (setRow_other (vs := bN (uK M s g (4 * 4))) (W := wr) (show D ≠ w.heap.size + 1 + 1 by omega)).trans HDD.out
        have b5 := below_row (vs := bN (uK M s g (4 * 4))) HBB.out (show w.heap.size ≤ w.heap.size + 1 + 1 by omega)
        generalize World.setRow _ _ _ = W5 at *
        have b6 := b5.trans (belowK_b (w := w) (Nat.le_refl _) W5 D _ (.deferred none) (by omega) k1 rfl rfl)
        have h10 : R16 (W5.putObj D (.deferred none)) (w.heap.size + 1 + 1) (bN (uK M s g (4 * 4))) := ⟨((grownBy_putObj' W5 D (.deferred none)).block _ h9.lt (by intro e; cases e; omega)).trans h9.1, h9.2⟩
        have H9 := Lib.hid h9
        have H10 := Lib.hid h10
        have K1 := Lib.hid k1
        have B6 := Lib.hid b6
        clear h9 h10 k1 b5 b6 HZR HRR HBB
        go_wp2
        refine ⟨by simp, .inl ⟨_, _, rfl, run_takeDeferred K1.out, ?_⟩⟩
        exact ⟨.agg (bN (uK M s g (4 * 4))), results_cell_row rfl _ _ _ 22 _ (0, 0) _ rfl H10.out.1 Try.underlying22 rfl (by rw [H10.out.2.1]; exact info22), (by first | (rw [HME.out, HSE.out]; done) | (rw [HME.out, HSE.out]; rfl)), B6.out⟩
  case stop =>
    rintro D c pre W _ _ h _
    exact h.elim
theorem round42_any (f g : Nat → Nat) (hf : ∀ j, f j < 256) (hg : ∀ j, g j < 256) (w : World) :
    Calls Try.prog 41 #[.agg (bN f), .agg (bN g), .func (.func 42) #[] #[]] w fun e W' => e = .returned (.agg (bN (uK mixN (sB f) g 16))) ∧ Below w.heap.size w W' :=
  callsIn_wide.1 (round42_in Fence.wide (Lib.hid rfl) 3 (Nat.le_refl _) f g hf hg w)
end Go.Proofs.Ytldicconopcipaa
