/- The reference's blocks: boxed, their rows turned. -/
import Derived.Test.YtldicconopcipaaGb
namespace Go.Proofs.Ytldicconopcipaa
open Go.RowKit
set_option linter.unusedVariables false
set_option linter.unusedSimpArgs false
attribute [local go_sem] Oper.semAt_some
def shF (f : Nat → Nat) (k j : Nat) : Nat := if j < k then sB f j else 0
def SH (w : World) (f : Nat → Nat) (k : Nat) (W : World) : Prop := R16 W w.heap.size (bN f) ∧ R16 W (w.heap.size + 1) z16 ∧ R16 W (w.heap.size + 1 + 1) (bN (shF f k)) ∧ Below w.heap.size w W
theorem SH.new (w : World) (f : Nat → Nat) : SH w f 0 (((w.alloc (.cells (bN f) 22)).alloc (.cells #[.int .u8 0, .int .u8 0, .int .u8 0, .int .u8 0, .int .u8 0, .int .u8 0, .int .u8 0, .int .u8 0, .int .u8 0, .int .u8 0, .int .u8 0, .int .u8 0, .int .u8 0, .int .u8 0, .int .u8 0, .int .u8 0] 22)).alloc (.cells #[.int .u8 0, .int .u8 0, .int .u8 0, .int .u8 0, .int .u8 0, .int .u8 0, .int .u8 0, .int .u8 0, .int .u8 0, .int .u8 0, .int .u8 0, .int .u8 0, .int .u8 0, .int .u8 0, .int .u8 0, .int .u8 0] 22)) := by
  have h1 := R16.new w (bN f) (bA_size _) (bA_one _)
  have h2 := R16.newz (w.alloc (.cells (bN f) 22))
  have h3 := R16.newz ((w.alloc (.cells (bN f) 22)).alloc (.cells #[.int .u8 0, .int .u8 0, .int .u8 0, .int .u8 0, .int .u8 0, .int .u8 0, .int .u8 0, .int .u8 0, .int .u8 0, .int .u8 0, .int .u8 0, .int .u8 0, .int .u8 0, .int .u8 0, .int .u8 0, .int .u8 0] 22))
  simp only [World.size_alloc] at h2 h3
  exact ⟨(h1.alloc _).alloc _, h2.alloc _, h3, (((Below.refl _ w).alloc (Nat.le_refl _) _).alloc (by simp) _).alloc (by simp; omega) _⟩
theorem SH.next {w W : World} {f : Nat → Nat} (c r k : Nat) (h : SH w f k W) (hk : k < 16) : SH w f (k + 1) (W.setCell ⟨w.heap.size + 1 + 1, k, none⟩ (.int .u8 (sB f k : Nat))) := by
  refine ⟨RB.far h.1 (by omega), RB.far h.2.1 (by omega), ?_, h.2.2.2.setCell (p := ⟨w.heap.size + 1 + 1, k, none⟩) (by dsimp only; omega) _⟩
  have := RB.set h.2.2.1 k hk (sB f k : Nat)
  rwa [bA_congr (fun j hj => show (if j = k then ((sB f k : Nat) : Int) else ((shF f k j : Nat) : Int)) = ((shF f (k + 1) j : Nat) : Int) from by
    unfold shF
    by_cases e : j = k
    · subst e; simp
    · by_cases e2 : j < k
      · simp [e, e2, show j < k + 1 by omega]
      · simp [e, e2, show ¬ j < k + 1 by omega])] at this
set_option maxRecDepth 100000 in
set_option maxHeartbeats 4000000 in
theorem shifted_any (f : Nat → Nat) (hf : ∀ j, f j < 256) (w : World) :
    Calls Try.prog 33 #[.agg (bN f)] w fun e w' => e = .returned (.agg (bN (sB f))) ∧ Below w.heap.size w w' := by
  have HS := Lib.hid (SH.new w f)
  have HF := Lib.hid hf
  clear hf
  go_enter Try.func33, Try.ntmps33
  go_upto_region 2 with fail
  generalize World.alloc (World.alloc (World.alloc _ _) _) _ = W1 at *
  go_wp2_with fail
  go_loopw [4] (fun i W => ∃ c : Nat, c ≤ 4 ∧ i = .int .i64 c ∧ SH w f (4 * c) W) (fun i _ => 4 - (intOf i).toNat)
  case atStart => exact ⟨0, by omega, rfl, HS.out⟩
  case round =>
    obtain ⟨c, hc, rfl, hX⟩ := hrel
    have hS := Lib.hid hX
    clear hX
    by_cases hc4 : c < 4
    · obtain rfl | rfl | rfl | rfl : c = 0 ∨ c = 1 ∨ c = 2 ∨ c = 3 := by omega
      · try simp only [Int.natCast_zero, Int.natCast_one, Int.cast_ofNat_Int]
        go_wp2_with fail
        go_loopw [5] (fun i W => ∃ r : Nat, r ≤ 4 ∧ i = .int .i64 r ∧ SH w f (0 + r) W) (fun i _ => 4 - (intOf i).toNat)
        case atStart => exact ⟨0, by omega, rfl, hS.out⟩
        case round =>
          obtain ⟨r, hr, rfl, hX⟩ := hrel
          have hS2 := Lib.hid hX
          clear hX
          by_cases hr4 : r < 4
          · have hs : shI (0 + r) = 4 * ((0 + r) % 4) + r := by unfold shI; omega
            have c0 := RB.cell hS2.out.1 (4 * ((0 + r) % 4) + r) (by omega)
            have c1 := RB.cell hS2.out.2.2.1 (0 + r) (by omega)
            have f1 := RB.froz hS2.out.2.2.1 (0 + r)
            have HN := Lib.hid (hS2.out.next 0 0 (0 + r) (by omega))
            have HBX := Lib.hid (fun W => rbox_any (f (4 * ((0 + r) % 4) + r)) (HF.out _) W)
            have HE : Hid (sB f (0 + r) = boxN (f (4 * ((0 + r) % 4) + r))) := Lib.hid (by unfold sB; rw [hs])
            clear hs
            try simp only [Nat.zero_add] at c0 c1 f1 HN HBX HE
            rw [HE.out] at HN
            go_wp2_with (go_at_call 46; (with_reducible refine (HBX.out _).mono ?_); rintro e w9 ⟨rfl, rfl⟩)
            exact ⟨⟨r + 1, by omega, by simp, (by first | exact HN.out | (rw [Nat.zero_add]; exact HN.out) | (rw [← Nat.add_assoc]; exact HN.out))⟩, by simp [intOf]; omega⟩
          · obtain rfl : r = 4 := by omega
            go_wp2
            exact ⟨⟨1, by omega, by simp, hS2.out⟩, by simp [intOf]⟩
      · try simp only [Int.natCast_zero, Int.natCast_one, Int.cast_ofNat_Int]
        go_wp2_with fail
        go_loopw [5] (fun i W => ∃ r : Nat, r ≤ 4 ∧ i = .int .i64 r ∧ SH w f (4 + r) W) (fun i _ => 4 - (intOf i).toNat)
        case atStart => exact ⟨0, by omega, rfl, hS.out⟩
        case round =>
          obtain ⟨r, hr, rfl, hX⟩ := hrel
          have hS2 := Lib.hid hX
          clear hX
          by_cases hr4 : r < 4
          · have hs : shI (4 + r) = 4 * ((1 + r) % 4) + r := by unfold shI; omega
            have c0 := RB.cell hS2.out.1 (4 * ((1 + r) % 4) + r) (by omega)
            have c1 := RB.cell hS2.out.2.2.1 (4 + r) (by omega)
            have f1 := RB.froz hS2.out.2.2.1 (4 + r)
            have HN := Lib.hid (hS2.out.next 0 0 (4 + r) (by omega))
            have HBX := Lib.hid (fun W => rbox_any (f (4 * ((1 + r) % 4) + r)) (HF.out _) W)
            have HE : Hid (sB f (4 + r) = boxN (f (4 * ((1 + r) % 4) + r))) := Lib.hid (by unfold sB; rw [hs])
            clear hs
            try simp only [Nat.zero_add] at c0 c1 f1 HN HBX HE
            rw [HE.out] at HN
            go_wp2_with (go_at_call 46; (with_reducible refine (HBX.out _).mono ?_); rintro e w9 ⟨rfl, rfl⟩)
            exact ⟨⟨r + 1, by omega, by simp, (by first | exact HN.out | (rw [Nat.zero_add]; exact HN.out) | (rw [← Nat.add_assoc]; exact HN.out))⟩, by simp [intOf]; omega⟩
          · obtain rfl : r = 4 := by omega
            go_wp2
            exact ⟨⟨2, by omega, by simp, hS2.out⟩, by simp [intOf]⟩
      · try simp only [Int.natCast_zero, Int.natCast_one, Int.cast_ofNat_Int]
        go_wp2_with fail
        go_loopw [5] (fun i W => ∃ r : Nat, r ≤ 4 ∧ i = .int .i64 r ∧ SH w f (8 + r) W) (fun i _ => 4 - (intOf i).toNat)
        case atStart => exact ⟨0, by omega, rfl, hS.out⟩
        case round =>
          obtain ⟨r, hr, rfl, hX⟩ := hrel
          have hS2 := Lib.hid hX
          clear hX
          by_cases hr4 : r < 4
          · have hs : shI (8 + r) = 4 * ((2 + r) % 4) + r := by unfold shI; omega
            have c0 := RB.cell hS2.out.1 (4 * ((2 + r) % 4) + r) (by omega)
            have c1 := RB.cell hS2.out.2.2.1 (8 + r) (by omega)
            have f1 := RB.froz hS2.out.2.2.1 (8 + r)
            have HN := Lib.hid (hS2.out.next 0 0 (8 + r) (by omega))
            have HBX := Lib.hid (fun W => rbox_any (f (4 * ((2 + r) % 4) + r)) (HF.out _) W)
            have HE : Hid (sB f (8 + r) = boxN (f (4 * ((2 + r) % 4) + r))) := Lib.hid (by unfold sB; rw [hs])
            clear hs
            try simp only [Nat.zero_add] at c0 c1 f1 HN HBX HE
            rw [HE.out] at HN
            go_wp2_with (go_at_call 46; (with_reducible refine (HBX.out _).mono ?_); rintro e w9 ⟨rfl, rfl⟩)
            exact ⟨⟨r + 1, by omega, by simp, (by first | exact HN.out | (rw [Nat.zero_add]; exact HN.out) | (rw [← Nat.add_assoc]; exact HN.out))⟩, by simp [intOf]; omega⟩
          · obtain rfl : r = 4 := by omega
            go_wp2
            exact ⟨⟨3, by omega, by simp, hS2.out⟩, by simp [intOf]⟩
      · try simp only [Int.natCast_zero, Int.natCast_one, Int.cast_ofNat_Int]
        go_wp2_with fail
        go_loopw [5] (fun i W => ∃ r : Nat, r ≤ 4 ∧ i = .int .i64 r ∧ SH w f (12 + r) W) (fun i _ => 4 - (intOf i).toNat)
        case atStart => exact ⟨0, by omega, rfl, hS.out⟩
        case round =>
          obtain ⟨r, hr, rfl, hX⟩ := hrel
          have hS2 := Lib.hid hX
          clear hX
          by_cases hr4 : r < 4
          · have hs : shI (12 + r) = 4 * ((3 + r) % 4) + r := by unfold shI; omega
            have c0 := RB.cell hS2.out.1 (4 * ((3 + r) % 4) + r) (by omega)
            have c1 := RB.cell hS2.out.2.2.1 (12 + r) (by omega)
            have f1 := RB.froz hS2.out.2.2.1 (12 + r)
            have HN := Lib.hid (hS2.out.next 0 0 (12 + r) (by omega))
            have HBX := Lib.hid (fun W => rbox_any (f (4 * ((3 + r) % 4) + r)) (HF.out _) W)
            have HE : Hid (sB f (12 + r) = boxN (f (4 * ((3 + r) % 4) + r))) := Lib.hid (by unfold sB; rw [hs])
            clear hs
            try simp only [Nat.zero_add] at c0 c1 f1 HN HBX HE
            rw [HE.out] at HN
            go_wp2_with (go_at_call 46; (with_reducible refine (HBX.out _).mono ?_); rintro e w9 ⟨rfl, rfl⟩)
            exact ⟨⟨r + 1, by omega, by simp, (by first | exact HN.out | (rw [Nat.zero_add]; exact HN.out) | (rw [← Nat.add_assoc]; exact HN.out))⟩, by simp [intOf]; omega⟩
          · obtain rfl : r = 4 := by omega
            go_wp2
            exact ⟨⟨4, by omega, by simp, hS2.out⟩, by simp [intOf]⟩
    · obtain rfl : c = 4 := by omega
      have h5 := hS.out.2.2.1
      have h8 := hS.out.2.1
      rw [bN_congr (fun j hj => show shF f (4 * 4) j = sB f j from if_pos hj)] at h5
      go_wp2_with (first | (refine wpList_load22 rfl rfl rfl h5 ?_) | (refine wpList_store22 rfl rfl rfl rfl h8 (bA_size _) (bA_one _) ?_))
      simp only [Act.put, List.setIfInBounds_toArray, List.set_cons_zero, List.set_cons_succ, List.getElem_toArray, List.getElem_cons_succ, List.getElem_cons_zero]
      have h9 := Lib.hid (h8.row (bA_size (fun i => ((sB f i : Nat) : Int))) (bA_one _))
      have hB9 := Lib.hid (below_row (vs := bN (sB f)) hS.out.2.2.2 (show w.heap.size ≤ w.heap.size + 1 by omega))
      clear hS h5 h8
      generalize World.setRow _ _ _ = W2 at *
      exact bodyPost_ret (v := .agg (bN (sB f))) (results_cell_row rfl _ _ _ 22 _ (0, 0) _ rfl h9.out.1 Try.underlying22 rfl (by rw [h9.out.2.1]; exact info22)) rfl ⟨rfl, hB9.out⟩
end Go.Proofs.Ytldicconopcipaa
