/- The walk of VectorBack. -/
import Derived.Test.YtldicconopcipaaFg
import Derived.Test.YtldicconopcipaaF
import Derived.Test.YtldicconopcipaaL
namespace Go.Proofs.Ytldicconopcipaa
open Go.RowKit
set_option linter.unusedVariables false
set_option linter.unusedSimpArgs false
theorem byN_numN (z : Nat → Nat) (hz : ∀ j, z j < 256) (i : Nat) (hi : i < 8) : byN (numN z 8) i = z i := by
  have h0 := hz 0
  have h1 := hz 1
  have h2 := hz 2
  have h3 := hz 3
  have h4 := hz 4
  have h5 := hz 5
  have h6 := hz 6
  have h7 := hz 7
  simp only [byN, numN]
  obtain rfl | rfl | rfl | rfl | rfl | rfl | rfl | rfl : i = 0 ∨ i = 1 ∨ i = 2 ∨ i = 3 ∨ i = 4 ∨ i = 5 ∨ i = 6 ∨ i = 7 := by omega
  all_goals simp only [Nat.reduceMul, Nat.reducePow, Nat.mul_zero, Nat.pow_zero]; omega
theorem blF_words (f : Nat → Nat) (hf : ∀ j, f j < 256) : bN (blF (woN f 0) (woN f 1)) = bN f := bN_congr fun i hi => by
  unfold blF woN
  by_cases h : i < 8
  · rw [if_pos h, byN_numN _ (fun _ => hf _) i h]; congr 1; omega
  · rw [if_neg h, byN_numN _ (fun _ => hf _) (i - 8) (by omega)]; congr 1; omega
def VB (w : World) (x y : Array Value) (W : World) : Prop := R16 W w.heap.size x ∧ R16 W (w.heap.size + 1) y ∧ Below w.heap.size w W
theorem VB.keep {w W W' : World} {x y : Array Value} (h : VB w x y W) (hb : Below W.heap.size W W') : VB w x y W' := ⟨h.1.keep hb, h.2.1.keep hb, h.2.2.trans (hb.mono h.2.2.size)⟩
theorem VB.new (w : World) (x y : Array Value) (hx : x.size = 16) (hx1 : x.all (·.oneCell') = true) (hy : y.size = 16) (hy1 : y.all (·.oneCell') = true) : VB w x y ((w.alloc (.cells x 22)).alloc (.cells y 22)) := by
  have h2 := R16.new (w.alloc (.cells x 22)) y hy hy1
  simp only [World.size_alloc] at h2
  exact ⟨(R16.new w x hx hx1).alloc _, h2, ((Below.refl _ w).alloc (Nat.le_refl _) _).alloc (by simp) _⟩
theorem VB.x {w W : World} {x y : Array Value} (h : VB w x y W) : R16 W w.heap.size x := h.1
theorem VB.y {w W : World} {x y : Array Value} (h : VB w x y W) : R16 W (w.heap.size + 1) y := h.2.1
theorem VB.b {w W : World} {x y : Array Value} (h : VB w x y W) : Below w.heap.size w W := h.2.2
/-- And the two deeds. -/
def VC (w : World) (x y : Array Value) (bs : Nat) (W : World) : Prop := VB w x y W ∧ W.heap[bs]? = some (.cells #[.int .u8 37, .int .u8 38] 5 (0, 0))
theorem VC.x {w W : World} {x y : Array Value} {bs : Nat} (h : VC w x y bs W) : R16 W w.heap.size x := h.1.1
theorem VC.y {w W : World} {x y : Array Value} {bs : Nat} (h : VC w x y bs W) : R16 W (w.heap.size + 1) y := h.1.2.1
theorem VC.new {w W : World} {x y : Array Value} (h : VB w x y W) : VC w x y W.heap.size (W.alloc (.cells #[.int .u8 37, .int .u8 38] 5)) := ⟨h.keep ((Below.refl _ _).alloc (Nat.le_refl _) _), heap_alloc_last _ _⟩
theorem VC.keep {w W W' : World} {x y : Array Value} {bs : Nat} (h : VC w x y bs W) (hb : Below W.heap.size W W') : VC w x y bs W' := ⟨h.1.keep hb, (hb.block _ (Array.getElem?_eq_some_iff.1 h.2).1).trans h.2⟩
set_option maxRecDepth 100000 in
set_option maxHeartbeats 8000000 in
theorem vback_core (x y xy e0 e1 l0 l1 : Array Value) (lo hi : Int) (hx : x.size = 16) (hx1 : x.all (·.oneCell') = true) (hy : y.size = 16) (hy1 : y.all (·.oneCell') = true) (w : World)
    (hO : ∀ W, R16 W w.heap.size x → Calls Try.prog 15 #[.slice (some ⟨w.heap.size, 0, none⟩) 16 16] W fun e w' => e = .returned (.agg x) ∧ Below W.heap.size W w')
    (eqx : ∀ W, (Op.equalIn 10000 22 (.agg x) (.agg x)).run Try.prog W = .ok true W) (eqe : ∀ W, (Op.equalIn 10000 22 (.agg e1) (.agg e1)).run Try.prog W = .ok true W) (eql : ∀ W, (Op.equalIn 10000 22 (.agg l1) (.agg l1)).run Try.prog W = .ok true W)
    (hW1 : ∀ W, Calls Try.prog 9 #[.agg x] W fun e w' => e = .returned (.tuple #[.int .u64 lo, .int .u64 hi]) ∧ Below W.heap.size W w')
    (hB1 : ∀ W, Calls Try.prog 13 #[.int .u64 lo, .int .u64 hi] W fun e w' => e = .returned (.agg x) ∧ Below W.heap.size W w')
    (hX1 : ∀ W, Calls Try.prog 11 #[.int .u8 36, .agg x, .agg y, .int .u8 0] W fun e w' => e = .returned (.agg xy) ∧ Below W.heap.size W w')
    (hX2 : ∀ W, Calls Try.prog 11 #[.int .u8 36, .agg xy, .agg y, .int .u8 0] W fun e w' => e = .returned (.agg x) ∧ Below W.heap.size W w')
    (hE0 : ∀ W, Calls Try.prog 11 #[.int .u8 37, .agg x, .agg #[.int .u8 0, .int .u8 0, .int .u8 0, .int .u8 0, .int .u8 0, .int .u8 0, .int .u8 0, .int .u8 0, .int .u8 0, .int .u8 0, .int .u8 0, .int .u8 0, .int .u8 0, .int .u8 0, .int .u8 0, .int .u8 0], .int .u8 0] W fun e w' => e = .returned (.agg e0) ∧ Below W.heap.size W w')
    (hE1 : ∀ W, Calls Try.prog 11 #[.int .u8 36, .agg e0, .agg y, .int .u8 0] W fun e w' => e = .returned (.agg e1) ∧ Below W.heap.size W w')
    (hE2 : ∀ W, Calls Try.prog 11 #[.int .u8 37, .agg x, .agg y, .int .u8 0] W fun e w' => e = .returned (.agg e1) ∧ Below W.heap.size W w')
    (hL0 : ∀ W, Calls Try.prog 11 #[.int .u8 38, .agg x, .agg #[.int .u8 0, .int .u8 0, .int .u8 0, .int .u8 0, .int .u8 0, .int .u8 0, .int .u8 0, .int .u8 0, .int .u8 0, .int .u8 0, .int .u8 0, .int .u8 0, .int .u8 0, .int .u8 0, .int .u8 0, .int .u8 0], .int .u8 0] W fun e w' => e = .returned (.agg l0) ∧ Below W.heap.size W w')
    (hL1 : ∀ W, Calls Try.prog 11 #[.int .u8 36, .agg l0, .agg y, .int .u8 0] W fun e w' => e = .returned (.agg l1) ∧ Below W.heap.size W w')
    (hL2 : ∀ W, Calls Try.prog 11 #[.int .u8 38, .agg x, .agg y, .int .u8 0] W fun e w' => e = .returned (.agg l1) ∧ Below W.heap.size W w')
    (hK : ∀ W, Calls Try.prog 8 #[] W fun e w' => e = .returned (.bool true) ∧ Below W.heap.size W w') :
    Calls Try.prog 4 #[.agg x, .agg y] w fun e w' => e = .returned (.bool true) ∧ Below w.heap.size w w' := by
  have GW1 := Lib.hid hW1
  have GB1 := Lib.hid hB1
  have GX1 := Lib.hid hX1
  have GX2 := Lib.hid hX2
  have GE0 := Lib.hid hE0
  have GE1 := Lib.hid hE1
  have GE2 := Lib.hid hE2
  have GL0 := Lib.hid hL0
  have GL1 := Lib.hid hL1
  have GL2 := Lib.hid hL2
  have GK := Lib.hid hK
  have GO := Lib.hid hO
  have GX := Lib.hid eqx
  have GE := Lib.hid eqe
  have GL := Lib.hid eql
  have HS := Lib.hid (VB.new w x y hx hx1 hy hy1)
  clear hO eqx eqe eql hW1 hB1 hX1 hX2 hE0 hE1 hE2 hL0 hL1 hL2 hK
  go_enter Try.func4, Try.ntmps4
  go_upto_region 1 with fail
  generalize World.alloc (World.alloc _ _) _ = W1 at *
  refine wp_region_list ?_
  refine wpList_load22 rfl rfl rfl HS.out.1 ?_
  go_wp2_with fail
  go_at_call 9
  (with_reducible refine (GW1.out _).mono ?_)
  rintro e w2 ⟨rfl, hb2⟩
  have HB := Lib.hid (HS.out.keep hb2)
  clear HS hb2
  go_upto_region 2 with fail
  refine wp_region_noPanic ?_
  refine wp_region_held_drew (S := fun W => VB w x y W) (by kernel_rfl) ?_ (fun hHeld => ?_)
  · exact HB.out.keep ((Below.refl _ _).drew)
  generalize World.drew _ = v0 at hHeld ⊢
  clear HB
  refine wpAnyH_take (i := 0) (v := ?_) rfl (by kernel_rfl) (by kernel_rfl) (by kernel_rfl) (fun _ _ _ h => h) (Or.inl ⟨by kernel_rfl, ?_⟩) (by assumption) ?_
  rotate_left
  · intro w hSw
    go_simp
    try with_reducible rfl
  simp only [Act.put, List.setIfInBounds_toArray, List.set_cons_zero, List.set_cons_succ, List.getElem_toArray, List.getElem_cons_succ, List.getElem_cons_zero]
  refine wpAnyH_take (i := 1) (v := ?_) rfl (by kernel_rfl) (by kernel_rfl) (by kernel_rfl) (fun _ _ _ h => h) (Or.inl ⟨by kernel_rfl, ?_⟩) (by assumption) ?_
  rotate_left
  · intro w hSw
    go_simp
    try with_reducible rfl
  simp only [Act.put, List.setIfInBounds_toArray, List.set_cons_zero, List.set_cons_succ, List.getElem_toArray, List.getElem_cons_succ, List.getElem_cons_zero]
  refine wpAnyH_take (i := 3) (v := ?_) rfl (by kernel_rfl) (by kernel_rfl) (by kernel_rfl) (fun _ _ _ h => h) (Or.inl ⟨by kernel_rfl, ?_⟩) (by assumption) ?_
  rotate_left
  · intro w hSw
    refine exec_load22 (x := .tmp 2) ?_ ?_ (VB.x hSw)
    · rfl
    · rfl
    try with_reducible rfl
  simp only [Act.put, List.setIfInBounds_toArray, List.set_cons_zero, List.set_cons_succ, List.getElem_toArray, List.getElem_cons_succ, List.getElem_cons_zero]
  refine wpAnyH_ready (rs := [2]) (by kernel_rfl) (by simp) ?_
  refine AllReadyH.cons rfl (fun K hK => ?_) AllReadyH.nil
  go_simp
  go_at_call 13
  (with_reducible refine (GB1.out _).mono ?_)
  rintro e w9 ⟨rfl, hb9⟩
  refine hK.out _ _ (hHeld.keep hb9) (fun hHeld2 => ?_)
  clear hK K hHeld hb9
  have hHeld := hHeld2
  clear hHeld2
  try simp only [Act.put, List.setIfInBounds_toArray, List.set_cons_zero, List.set_cons_succ, List.getElem_toArray, List.getElem_cons_succ, List.getElem_cons_zero]
  refine wpAnyH_take (i := 4) (v := ?_) rfl (by kernel_rfl) (by kernel_rfl) (by kernel_rfl) (fun _ _ _ h => h) (Or.inl ⟨by kernel_rfl, ?_⟩) (by assumption) ?_
  rotate_left
  · intro w hSw
    have he := GX.out
    go_simp
    try with_reducible rfl
  simp only [Act.put, List.setIfInBounds_toArray, List.set_cons_zero, List.set_cons_succ, List.getElem_toArray, List.getElem_cons_succ, List.getElem_cons_zero]
  refine wpAnyH_take (i := 5) (v := ?_) rfl (by kernel_rfl) (by kernel_rfl) (by kernel_rfl) (fun _ _ _ h => h) (Or.inl ⟨by kernel_rfl, ?_⟩) (by assumption) ?_
  rotate_left
  · intro w hSw
    go_simp
    try with_reducible rfl
  simp only [Act.put, List.setIfInBounds_toArray, List.set_cons_zero, List.set_cons_succ, List.getElem_toArray, List.getElem_cons_succ, List.getElem_cons_zero]
  refine wpAnyH_take (i := 6) (v := ?_) rfl (by kernel_rfl) (by kernel_rfl) (by kernel_rfl) (fun _ _ _ h => h) (Or.inl ⟨by kernel_rfl, ?_⟩) (by assumption) ?_
  rotate_left
  · intro w hSw
    go_simp
    try with_reducible rfl
  simp only [Act.put, List.setIfInBounds_toArray, List.set_cons_zero, List.set_cons_succ, List.getElem_toArray, List.getElem_cons_succ, List.getElem_cons_zero]
  refine wpAnyH_take (i := 8) (v := ?_) rfl (by kernel_rfl) (by kernel_rfl) (by kernel_rfl) (fun _ _ _ h => h) (Or.inl ⟨by kernel_rfl, ?_⟩) (by assumption) ?_
  rotate_left
  · intro w hSw
    refine exec_load22 (x := .tmp 2) ?_ ?_ (VB.x hSw)
    · rfl
    · rfl
    try with_reducible rfl
  simp only [Act.put, List.setIfInBounds_toArray, List.set_cons_zero, List.set_cons_succ, List.getElem_toArray, List.getElem_cons_succ, List.getElem_cons_zero]
  refine wpAnyH_ready (rs := [7]) (by kernel_rfl) (by simp) ?_
  refine AllReadyH.cons rfl (fun K hK => ?_) AllReadyH.nil
  go_simp
  go_at_call 15
  (with_reducible refine (GO.out _ (VB.x hHeld)).mono ?_)
  rintro e w9 ⟨rfl, hb9⟩
  refine hK.out _ _ (hHeld.keep hb9) (fun hHeld2 => ?_)
  clear hK K hHeld hb9
  have hHeld := hHeld2
  clear hHeld2
  try simp only [Act.put, List.setIfInBounds_toArray, List.set_cons_zero, List.set_cons_succ, List.getElem_toArray, List.getElem_cons_succ, List.getElem_cons_zero]
  refine wpAnyH_take (i := 9) (v := ?_) rfl (by kernel_rfl) (by kernel_rfl) (by kernel_rfl) (fun _ _ _ h => h) (Or.inl ⟨by kernel_rfl, ?_⟩) (by assumption) ?_
  rotate_left
  · intro w hSw
    have he := GX.out
    go_simp
    try with_reducible rfl
  simp only [Act.put, List.setIfInBounds_toArray, List.set_cons_zero, List.set_cons_succ, List.getElem_toArray, List.getElem_cons_succ, List.getElem_cons_zero]
  refine wpAnyH_take (i := 10) (v := ?_) rfl (by kernel_rfl) (by kernel_rfl) (by kernel_rfl) (fun _ _ _ h => h) (Or.inl ⟨by kernel_rfl, ?_⟩) (by assumption) ?_
  rotate_left
  · intro w hSw
    go_simp
    try with_reducible rfl
  simp only [Act.put, List.setIfInBounds_toArray, List.set_cons_zero, List.set_cons_succ, List.getElem_toArray, List.getElem_cons_succ, List.getElem_cons_zero]
  refine wpAnyH_take (i := 11) (v := ?_) rfl (by kernel_rfl) (by kernel_rfl) (by kernel_rfl) (fun _ _ _ h => h) (Or.inl ⟨by kernel_rfl, ?_⟩) (by assumption) ?_
  rotate_left
  · intro w hSw
    go_simp
    try with_reducible rfl
  simp only [Act.put, List.setIfInBounds_toArray, List.set_cons_zero, List.set_cons_succ, List.getElem_toArray, List.getElem_cons_succ, List.getElem_cons_zero]
  refine wpAnyH_take (i := 12) (v := ?_) rfl (by kernel_rfl) (by kernel_rfl) (by kernel_rfl) (fun _ _ _ h => h) (Or.inl ⟨by kernel_rfl, ?_⟩) (by assumption) ?_
  rotate_left
  · intro w hSw
    refine exec_load22 (x := .tmp 2) ?_ ?_ (VB.x hSw)
    · rfl
    · rfl
    try with_reducible rfl
  simp only [Act.put, List.setIfInBounds_toArray, List.set_cons_zero, List.set_cons_succ, List.getElem_toArray, List.getElem_cons_succ, List.getElem_cons_zero]
  refine wpAnyH_take (i := 13) (v := ?_) rfl (by kernel_rfl) (by kernel_rfl) (by kernel_rfl) (fun _ _ _ h => h) (Or.inl ⟨by kernel_rfl, ?_⟩) (by assumption) ?_
  rotate_left
  · intro w hSw
    refine exec_load22 (x := .tmp 3) ?_ ?_ (VB.y hSw)
    · rfl
    · rfl
    try with_reducible rfl
  simp only [Act.put, List.setIfInBounds_toArray, List.set_cons_zero, List.set_cons_succ, List.getElem_toArray, List.getElem_cons_succ, List.getElem_cons_zero]
  refine wpAnyH_take (i := 15) (v := ?_) rfl (by kernel_rfl) (by kernel_rfl) (by kernel_rfl) (fun _ _ _ h => h) (Or.inl ⟨by kernel_rfl, ?_⟩) (by assumption) ?_
  rotate_left
  · intro w hSw
    refine exec_load22 (x := .tmp 3) ?_ ?_ (VB.y hSw)
    · rfl
    · rfl
    try with_reducible rfl
  simp only [Act.put, List.setIfInBounds_toArray, List.set_cons_zero, List.set_cons_succ, List.getElem_toArray, List.getElem_cons_succ, List.getElem_cons_zero]
  refine wpAnyH_take (i := 17) (v := ?_) rfl (by kernel_rfl) (by kernel_rfl) (by kernel_rfl) (fun _ _ _ h => h) (Or.inl ⟨by kernel_rfl, ?_⟩) (by assumption) ?_
  rotate_left
  · intro w hSw
    refine exec_load22 (x := .tmp 2) ?_ ?_ (VB.x hSw)
    · rfl
    · rfl
    try with_reducible rfl
  simp only [Act.put, List.setIfInBounds_toArray, List.set_cons_zero, List.set_cons_succ, List.getElem_toArray, List.getElem_cons_succ, List.getElem_cons_zero]
  refine wpAnyH_ready (rs := [14]) (by kernel_rfl) (by simp) ?_
  refine AllReadyH.cons rfl (fun K hK => ?_) AllReadyH.nil
  go_simp
  go_at_call 11
  (with_reducible refine (GX1.out _).mono ?_)
  rintro e w9 ⟨rfl, hb9⟩
  refine hK.out _ _ (hHeld.keep hb9) (fun hHeld2 => ?_)
  clear hK K hHeld hb9
  have hHeld := hHeld2
  clear hHeld2
  try simp only [Act.put, List.setIfInBounds_toArray, List.set_cons_zero, List.set_cons_succ, List.getElem_toArray, List.getElem_cons_succ, List.getElem_cons_zero]
  refine wpAnyH_ready (rs := [16]) (by kernel_rfl) (by simp) ?_
  refine AllReadyH.cons rfl (fun K hK => ?_) AllReadyH.nil
  go_simp
  go_at_call 11
  (with_reducible refine (GX2.out _).mono ?_)
  rintro e w9 ⟨rfl, hb9⟩
  refine hK.out _ _ (hHeld.keep hb9) (fun hHeld2 => ?_)
  clear hK K hHeld hb9
  have hHeld := hHeld2
  clear hHeld2
  try simp only [Act.put, List.setIfInBounds_toArray, List.set_cons_zero, List.set_cons_succ, List.getElem_toArray, List.getElem_cons_succ, List.getElem_cons_zero]
  refine wpAnyH_take (i := 18) (v := ?_) rfl (by kernel_rfl) (by kernel_rfl) (by kernel_rfl) (fun _ _ _ h => h) (Or.inl ⟨by kernel_rfl, ?_⟩) (by assumption) ?_
  rotate_left
  · intro w hSw
    have he := GX.out
    go_simp
    try with_reducible rfl
  simp only [Act.put, List.setIfInBounds_toArray, List.set_cons_zero, List.set_cons_succ, List.getElem_toArray, List.getElem_cons_succ, List.getElem_cons_zero]
  refine wpAnyH_take (i := 19) (v := ?_) rfl (by kernel_rfl) (by kernel_rfl) (by kernel_rfl) (fun _ _ _ h => h) (Or.inl ⟨by kernel_rfl, ?_⟩) (by assumption) ?_
  rotate_left
  · intro w hSw
    go_simp
    try with_reducible rfl
  simp only [Act.put, List.setIfInBounds_toArray, List.set_cons_zero, List.set_cons_succ, List.getElem_toArray, List.getElem_cons_succ, List.getElem_cons_zero]
  refine wpAnyH_done (by kernel_rfl) ?_ _
  refine NoPanic.normal ?_
  have HV := Lib.hid (VC.new hHeld)
  clear hHeld
  go_wp2_with fail
  generalize World.alloc _ _ = W2 at *
  generalize w9.heap.size = bs at *
  go_loopw [36] (fun i W => ∃ k : Nat, k ≤ 2 ∧ i = .int .i64 k ∧ VC w x y bs W) (fun i _ => 2 - (intOf i).toNat)
  case atStart => exact ⟨0, by omega, rfl, HV.out⟩
  case round =>
    obtain ⟨k, hk, rfl, hX⟩ := hrel
    have hS := Lib.hid hX
    clear hX
    obtain rfl | rfl | rfl : k = 0 ∨ k = 1 ∨ k = 2 := by omega
    · have cs : wr.cell? ⟨bs, 0, none⟩ = some (.int .u8 37) := by have := hS.out.2; simp [World.cell?, this]
      go_upto_region 7 with fail
      refine wp_region_noPanic ?_
      refine wp_region_held_drew (S := fun W => VC w x y bs W) (by kernel_rfl) ?_ (fun hHeld => ?_)
      · exact hS.out.keep ((Below.refl _ _).drew)
      generalize World.drew _ = v0 at hHeld ⊢
      clear hS
      refine wpAnyH_take (i := 0) (v := ?_) rfl (by kernel_rfl) (by kernel_rfl) (by kernel_rfl) (fun _ _ _ h => h) (Or.inl ⟨by kernel_rfl, ?_⟩) (by assumption) ?_
      rotate_left
      · intro w hSw
        go_simp
        try with_reducible rfl
      simp only [Act.put, List.setIfInBounds_toArray, List.set_cons_zero, List.set_cons_succ, List.getElem_toArray, List.getElem_cons_succ, List.getElem_cons_zero]
      refine wpAnyH_take (i := 1) (v := ?_) rfl (by kernel_rfl) (by kernel_rfl) (by kernel_rfl) (fun _ _ _ h => h) (Or.inl ⟨by kernel_rfl, ?_⟩) (by assumption) ?_
      rotate_left
      · intro w hSw
        refine exec_load22 (x := .tmp 2) ?_ ?_ (VC.x hSw)
        · rfl
        · rfl
        try with_reducible rfl
      simp only [Act.put, List.setIfInBounds_toArray, List.set_cons_zero, List.set_cons_succ, List.getElem_toArray, List.getElem_cons_succ, List.getElem_cons_zero]
      refine wpAnyH_take (i := 2) (v := ?_) rfl (by kernel_rfl) (by kernel_rfl) (by kernel_rfl) (fun _ _ _ h => h) (Or.inl ⟨by kernel_rfl, ?_⟩) (by assumption) ?_
      rotate_left
      · intro w hSw
        go_simp
        try with_reducible rfl
      simp only [Act.put, List.setIfInBounds_toArray, List.set_cons_zero, List.set_cons_succ, List.getElem_toArray, List.getElem_cons_succ, List.getElem_cons_zero]
      refine wpAnyH_take (i := 4) (v := ?_) rfl (by kernel_rfl) (by kernel_rfl) (by kernel_rfl) (fun _ _ _ h => h) (Or.inl ⟨by kernel_rfl, ?_⟩) (by assumption) ?_
      rotate_left
      · intro w hSw
        refine exec_load22 (x := .tmp 3) ?_ ?_ (VC.y hSw)
        · rfl
        · rfl
        try with_reducible rfl
      simp only [Act.put, List.setIfInBounds_toArray, List.set_cons_zero, List.set_cons_succ, List.getElem_toArray, List.getElem_cons_succ, List.getElem_cons_zero]
      refine wpAnyH_take (i := 6) (v := ?_) rfl (by kernel_rfl) (by kernel_rfl) (by kernel_rfl) (fun _ _ _ h => h) (Or.inl ⟨by kernel_rfl, ?_⟩) (by assumption) ?_
      rotate_left
      · intro w hSw
        go_simp
        try with_reducible rfl
      simp only [Act.put, List.setIfInBounds_toArray, List.set_cons_zero, List.set_cons_succ, List.getElem_toArray, List.getElem_cons_succ, List.getElem_cons_zero]
      refine wpAnyH_take (i := 7) (v := ?_) rfl (by kernel_rfl) (by kernel_rfl) (by kernel_rfl) (fun _ _ _ h => h) (Or.inl ⟨by kernel_rfl, ?_⟩) (by assumption) ?_
      rotate_left
      · intro w hSw
        refine exec_load22 (x := .tmp 2) ?_ ?_ (VC.x hSw)
        · rfl
        · rfl
        try with_reducible rfl
      simp only [Act.put, List.setIfInBounds_toArray, List.set_cons_zero, List.set_cons_succ, List.getElem_toArray, List.getElem_cons_succ, List.getElem_cons_zero]
      refine wpAnyH_take (i := 8) (v := ?_) rfl (by kernel_rfl) (by kernel_rfl) (by kernel_rfl) (fun _ _ _ h => h) (Or.inl ⟨by kernel_rfl, ?_⟩) (by assumption) ?_
      rotate_left
      · intro w hSw
        refine exec_load22 (x := .tmp 3) ?_ ?_ (VC.y hSw)
        · rfl
        · rfl
        try with_reducible rfl
      simp only [Act.put, List.setIfInBounds_toArray, List.set_cons_zero, List.set_cons_succ, List.getElem_toArray, List.getElem_cons_succ, List.getElem_cons_zero]
      refine wpAnyH_ready (rs := [3]) (by kernel_rfl) (by simp) ?_
      refine AllReadyH.cons rfl (fun K hK => ?_) AllReadyH.nil
      go_simp
      go_at_call 11
      (with_reducible refine (GE0.out _).mono ?_)
      rintro e w9 ⟨rfl, hb9⟩
      refine hK.out _ _ (hHeld.keep hb9) (fun hHeld2 => ?_)
      clear hK K hHeld hb9
      have hHeld := hHeld2
      clear hHeld2
      try simp only [Act.put, List.setIfInBounds_toArray, List.set_cons_zero, List.set_cons_succ, List.getElem_toArray, List.getElem_cons_succ, List.getElem_cons_zero]
      refine wpAnyH_ready (rs := [5]) (by kernel_rfl) (by simp) ?_
      refine AllReadyH.cons rfl (fun K hK => ?_) AllReadyH.nil
      go_simp
      go_at_call 11
      (with_reducible refine (GE1.out _).mono ?_)
      rintro e w9 ⟨rfl, hb9⟩
      refine hK.out _ _ (hHeld.keep hb9) (fun hHeld2 => ?_)
      clear hK K hHeld hb9
      have hHeld := hHeld2
      clear hHeld2
      try simp only [Act.put, List.setIfInBounds_toArray, List.set_cons_zero, List.set_cons_succ, List.getElem_toArray, List.getElem_cons_succ, List.getElem_cons_zero]
      refine wpAnyH_ready (rs := [9]) (by kernel_rfl) (by simp) ?_
      refine AllReadyH.cons rfl (fun K hK => ?_) AllReadyH.nil
      go_simp
      go_at_call 11
      (with_reducible refine (GE2.out _).mono ?_)
      rintro e w9 ⟨rfl, hb9⟩
      refine hK.out _ _ (hHeld.keep hb9) (fun hHeld2 => ?_)
      clear hK K hHeld hb9
      have hHeld := hHeld2
      clear hHeld2
      try simp only [Act.put, List.setIfInBounds_toArray, List.set_cons_zero, List.set_cons_succ, List.getElem_toArray, List.getElem_cons_succ, List.getElem_cons_zero]
      refine wpAnyH_take (i := 10) (v := ?_) rfl (by kernel_rfl) (by kernel_rfl) (by kernel_rfl) (fun _ _ _ h => h) (Or.inl ⟨by kernel_rfl, ?_⟩) (by assumption) ?_
      rotate_left
      · intro w hSw
        have he := GE.out
        go_simp
        try with_reducible rfl
      simp only [Act.put, List.setIfInBounds_toArray, List.set_cons_zero, List.set_cons_succ, List.getElem_toArray, List.getElem_cons_succ, List.getElem_cons_zero]
      refine wpAnyH_done (by kernel_rfl) ?_ _
      refine NoPanic.normal ?_
      have HN := Lib.hid hHeld
      clear hHeld cs
      go_wp2_with fail
      exact ⟨⟨1, by omega, by simp, HN.out⟩, by simp [intOf]⟩
    · have cs : wr.cell? ⟨bs, 1, none⟩ = some (.int .u8 38) := by have := hS.out.2; simp [World.cell?, this]
      go_upto_region 7 with fail
      refine wp_region_noPanic ?_
      refine wp_region_held_drew (S := fun W => VC w x y bs W) (by kernel_rfl) ?_ (fun hHeld => ?_)
      · exact hS.out.keep ((Below.refl _ _).drew)
      generalize World.drew _ = v0 at hHeld ⊢
      clear hS
      refine wpAnyH_take (i := 0) (v := ?_) rfl (by kernel_rfl) (by kernel_rfl) (by kernel_rfl) (fun _ _ _ h => h) (Or.inl ⟨by kernel_rfl, ?_⟩) (by assumption) ?_
      rotate_left
      · intro w hSw
        go_simp
        try with_reducible rfl
      simp only [Act.put, List.setIfInBounds_toArray, List.set_cons_zero, List.set_cons_succ, List.getElem_toArray, List.getElem_cons_succ, List.getElem_cons_zero]
      refine wpAnyH_take (i := 1) (v := ?_) rfl (by kernel_rfl) (by kernel_rfl) (by kernel_rfl) (fun _ _ _ h => h) (Or.inl ⟨by kernel_rfl, ?_⟩) (by assumption) ?_
      rotate_left
      · intro w hSw
        refine exec_load22 (x := .tmp 2) ?_ ?_ (VC.x hSw)
        · rfl
        · rfl
        try with_reducible rfl
      simp only [Act.put, List.setIfInBounds_toArray, List.set_cons_zero, List.set_cons_succ, List.getElem_toArray, List.getElem_cons_succ, List.getElem_cons_zero]
      refine wpAnyH_take (i := 2) (v := ?_) rfl (by kernel_rfl) (by kernel_rfl) (by kernel_rfl) (fun _ _ _ h => h) (Or.inl ⟨by kernel_rfl, ?_⟩) (by assumption) ?_
      rotate_left
      · intro w hSw
        go_simp
        try with_reducible rfl
      simp only [Act.put, List.setIfInBounds_toArray, List.set_cons_zero, List.set_cons_succ, List.getElem_toArray, List.getElem_cons_succ, List.getElem_cons_zero]
      refine wpAnyH_take (i := 4) (v := ?_) rfl (by kernel_rfl) (by kernel_rfl) (by kernel_rfl) (fun _ _ _ h => h) (Or.inl ⟨by kernel_rfl, ?_⟩) (by assumption) ?_
      rotate_left
      · intro w hSw
        refine exec_load22 (x := .tmp 3) ?_ ?_ (VC.y hSw)
        · rfl
        · rfl
        try with_reducible rfl
      simp only [Act.put, List.setIfInBounds_toArray, List.set_cons_zero, List.set_cons_succ, List.getElem_toArray, List.getElem_cons_succ, List.getElem_cons_zero]
      refine wpAnyH_take (i := 6) (v := ?_) rfl (by kernel_rfl) (by kernel_rfl) (by kernel_rfl) (fun _ _ _ h => h) (Or.inl ⟨by kernel_rfl, ?_⟩) (by assumption) ?_
      rotate_left
      · intro w hSw
        go_simp
        try with_reducible rfl
      simp only [Act.put, List.setIfInBounds_toArray, List.set_cons_zero, List.set_cons_succ, List.getElem_toArray, List.getElem_cons_succ, List.getElem_cons_zero]
      refine wpAnyH_take (i := 7) (v := ?_) rfl (by kernel_rfl) (by kernel_rfl) (by kernel_rfl) (fun _ _ _ h => h) (Or.inl ⟨by kernel_rfl, ?_⟩) (by assumption) ?_
      rotate_left
      · intro w hSw
        refine exec_load22 (x := .tmp 2) ?_ ?_ (VC.x hSw)
        · rfl
        · rfl
        try with_reducible rfl
      simp only [Act.put, List.setIfInBounds_toArray, List.set_cons_zero, List.set_cons_succ, List.getElem_toArray, List.getElem_cons_succ, List.getElem_cons_zero]
      refine wpAnyH_take (i := 8) (v := ?_) rfl (by kernel_rfl) (by kernel_rfl) (by kernel_rfl) (fun _ _ _ h => h) (Or.inl ⟨by kernel_rfl, ?_⟩) (by assumption) ?_
      rotate_left
      · intro w hSw
        refine exec_load22 (x := .tmp 3) ?_ ?_ (VC.y hSw)
        · rfl
        · rfl
        try with_reducible rfl
      simp only [Act.put, List.setIfInBounds_toArray, List.set_cons_zero, List.set_cons_succ, List.getElem_toArray, List.getElem_cons_succ, List.getElem_cons_zero]
      refine wpAnyH_ready (rs := [3]) (by kernel_rfl) (by simp) ?_
      refine AllReadyH.cons rfl (fun K hK => ?_) AllReadyH.nil
      go_simp
      go_at_call 11
      (with_reducible refine (GL0.out _).mono ?_)
      rintro e w9 ⟨rfl, hb9⟩
      refine hK.out _ _ (hHeld.keep hb9) (fun hHeld2 => ?_)
      clear hK K hHeld hb9
      have hHeld := hHeld2
      clear hHeld2
      try simp only [Act.put, List.setIfInBounds_toArray, List.set_cons_zero, List.set_cons_succ, List.getElem_toArray, List.getElem_cons_succ, List.getElem_cons_zero]
      refine wpAnyH_ready (rs := [5]) (by kernel_rfl) (by simp) ?_
      refine AllReadyH.cons rfl (fun K hK => ?_) AllReadyH.nil
      go_simp
      go_at_call 11
      (with_reducible refine (GL1.out _).mono ?_)
      rintro e w9 ⟨rfl, hb9⟩
      refine hK.out _ _ (hHeld.keep hb9) (fun hHeld2 => ?_)
      clear hK K hHeld hb9
      have hHeld := hHeld2
      clear hHeld2
      try simp only [Act.put, List.setIfInBounds_toArray, List.set_cons_zero, List.set_cons_succ, List.getElem_toArray, List.getElem_cons_succ, List.getElem_cons_zero]
      refine wpAnyH_ready (rs := [9]) (by kernel_rfl) (by simp) ?_
      refine AllReadyH.cons rfl (fun K hK => ?_) AllReadyH.nil
      go_simp
      go_at_call 11
      (with_reducible refine (GL2.out _).mono ?_)
      rintro e w9 ⟨rfl, hb9⟩
      refine hK.out _ _ (hHeld.keep hb9) (fun hHeld2 => ?_)
      clear hK K hHeld hb9
      have hHeld := hHeld2
      clear hHeld2
      try simp only [Act.put, List.setIfInBounds_toArray, List.set_cons_zero, List.set_cons_succ, List.getElem_toArray, List.getElem_cons_succ, List.getElem_cons_zero]
      refine wpAnyH_take (i := 10) (v := ?_) rfl (by kernel_rfl) (by kernel_rfl) (by kernel_rfl) (fun _ _ _ h => h) (Or.inl ⟨by kernel_rfl, ?_⟩) (by assumption) ?_
      rotate_left
      · intro w hSw
        have he := GL.out
        go_simp
        try with_reducible rfl
      simp only [Act.put, List.setIfInBounds_toArray, List.set_cons_zero, List.set_cons_succ, List.getElem_toArray, List.getElem_cons_succ, List.getElem_cons_zero]
      refine wpAnyH_done (by kernel_rfl) ?_ _
      refine NoPanic.normal ?_
      have HN := Lib.hid hHeld
      clear hHeld cs
      go_wp2_with fail
      exact ⟨⟨2, by omega, by simp, HN.out⟩, by simp [intOf]⟩
    · go_wp2_with (go_at_call 8; (with_reducible refine (GK.out _).mono ?_); rintro e w3 ⟨rfl, hb3⟩)
      have hz := hS.out.1.2.2
      go_ret
      exact ⟨rfl, hz.trans (hb3.mono hz.size)⟩
end Go.Proofs.Ytldicconopcipaa
