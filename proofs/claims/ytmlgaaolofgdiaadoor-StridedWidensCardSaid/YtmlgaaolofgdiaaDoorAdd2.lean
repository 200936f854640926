/- strided.Add's and Sub's closures, and what both answer. -/
import Derived.Test.YtmlgaaolofgdiaaDoorWadd
import Derived.Test.YtmlgaaolofgdiaaDoorWsub
namespace Go.Proofs.YtmlgaaolofgdiaaDoor
open Go.RowKit SM
set_option linter.unusedSimpArgs false
attribute [local go_sem ↓] Go.wp_at_zero Go.wp_at_succ
attribute [local go_sem ↓ high] eql_set neq_set run_mx run_mn

theorem add64_call (x y : Nat) (ux : U x) (uy : U y) (w : World) :
    (callFunc 37 #[.int .u64 (x : Int), .int .u64 (y : Int), .int .u64 0]).run Tryd.prog w =
      .ok (.value (.tuple #[.int .u64 (((x + y) % 18446744073709551616 : Nat) : Int), .int .u64 (((x + y) / 18446744073709551616 : Nat) : Int)])) w := by
  unfold U at *
  rw [run_callFunc_extern Tryd.func37 (by kernel_rfl) (by kernel_rfl) (by kernel_rfl) (e := add64Entry) (by kernel_rfl), run_add64 x y 0 (by omega) (by omega) (by omega) (by omega)]
  simp only [Result.andThen]
  congr 5 <;> omega
theorem wrap_add (x y : Nat) : IntKind.u64.wrap ((x : Int) + y) = (((x + y) % 18446744073709551616 : Nat) : Int) := by
  rw [IntKind.wrap_u64]; simp
theorem wrap_sub (x y : Nat) (uy : U y) : IntKind.u64.wrap ((x : Int) - y) = (((x + 18446744073709551616 - y) % 18446744073709551616 : Nat) : Int) := by
  unfold U at uy
  rw [IntKind.wrap_u64]; omega
set_option maxHeartbeats 400000 in
theorem add1_any (x y : Nat) (w : World) :
    Calls Tryd.prog 35 #[.int .u64 x, .int .u64 y] w fun e w' => e = .returned (.int .u64 ((x + y) % 18446744073709551616 : Nat)) ∧ w = w' := by
  have H := Lib.hid (wrap_add x y)
  go_enter Tryd.func35, Tryd.ntmps35
  go_wp2
  go_ret
  exact ⟨by rw [← H.out]; rfl, rfl⟩
set_option maxHeartbeats 400000 in
theorem sub1_any (x y : Nat) (uy : U y) (w : World) :
    Calls Tryd.prog 39 #[.int .u64 x, .int .u64 y] w fun e w' => e = .returned (.int .u64 ((x + 18446744073709551616 - y) % 18446744073709551616 : Nat)) ∧ w = w' := by
  have H := Lib.hid (wrap_sub x y uy)
  clear uy
  go_enter Tryd.func39, Tryd.ntmps39
  go_wp2
  go_ret
  exact ⟨by rw [← H.out]; rfl, rfl⟩
set_option maxHeartbeats 2000000 in
theorem add2_out (s l h t m k : Nat) (wd : Int) (p : Nat) (uh : U h) (uk : U k) (g : 18446744073709551616 ≤ h + k) (w : World) (hm : Mk w) (hp : p < w.heap.size) (hcp : w.cell? ⟨p, 0, none⟩ = some (.int .i64 wd)) :
    Calls Tryd.prog 36 #[sv s l h, sv t m k, .pointer (some ⟨p, 0, none⟩)] w fun e w' => e = .returned (sv 1 0 (mN wd)) ∧ Below w.heap.size w w' := by
  have HM := Lib.hid hm
  clear hm
  obtain ⟨hi, hhi⟩ : ∃ hi, hi = (h + k) % 18446744073709551616 := ⟨_, rfl⟩
  obtain ⟨ou, hou⟩ : ∃ ou, ou = (h + k) / 18446744073709551616 := ⟨_, rfl⟩
  have H6 := fun W => add64_call h k uh uk W
  rw [← hhi, ← hou] at H6
  have g1 : ((ou : Int) != 0) = true := by simp; unfold U at *; omega
  clear uh uk g hhi hou
  have k1 := ((Slot3.new w (.int .u64 (s : Int)) (.int .u64 (l : Int)) (.int .u64 (h : Int)) 24).alloc (sb t m k)).alloc (z3)
  have k2 := (Slot3.new (w.alloc (sb s l h)) (.int .u64 (t : Int)) (.int .u64 (m : Int)) (.int .u64 (k : Int)) 24).alloc (z3)
  have k3 := Slot3.new ((w.alloc (sb s l h)).alloc (sb t m k)) (.int .u64 0) (.int .u64 0) (.int .u64 0) 24
  have hb0 : Below w.heap.size w (((w.alloc (sb s l h)).alloc (sb t m k)).alloc (z3)) := (((Below.refl _ _).alloc (Nat.le_refl _) _).alloc (by simp) _).alloc (by simp; omega) _
  simp only [World.size_alloc] at k2 k3
  have HS := Lib.hid (mk3 k1 k2 k3 hb0)
  have cp := (hb0.cell (p := ⟨p, 0, none⟩) hp).trans hcp
  simp only [sb, z3] at cp
  clear k1 k2 k3 hb0
  go_enter Tryd.func36, Tryd.ntmps36
  go_wp2_with fail
  go_at_call 38
  refine (all_any _ _ (HM.out.own (HS.out.2.2.2.2.2.2.2.2.2.2.2.2.2.2.2.2.2.2.2.2.2))).mono ?_
  rintro e W' ⟨rfl, hb1⟩
  replace HS := Lib.hid (keep3 hb1 HS.out (Nat.le_refl _))
  clear hb1
  obtain ⟨a0, a1, a2, a3, a4, a5, a6, b0, b1, b2, b3, b4, b5, b6, c0, c1, c2, c3, c4, c5, c6, hg⟩ := HS.out
  go_wp2_with fail
  refine bodyPost_ret (v := sv 1 0 (mN wd)) (by simp [results, Tryd.results36, go_sem, *]) rfl ⟨rfl, hg.trans ?_⟩
  go_grown
set_option maxHeartbeats 2000000 in
theorem add2_big (s l h t m k : Nat) (wd : Int) (p : Nat) (uh : U h) (uk : U k) (g : h + k < 18446744073709551616) (g2 : mN wd < h + k) (w : World) (hm : Mk w) (hp : p < w.heap.size) (hcp : w.cell? ⟨p, 0, none⟩ = some (.int .i64 wd)) :
    Calls Tryd.prog 36 #[sv s l h, sv t m k, .pointer (some ⟨p, 0, none⟩)] w fun e w' => e = .returned (sv 1 0 (mN wd)) ∧ Below w.heap.size w w' := by
  have HM := Lib.hid hm
  clear hm
  obtain ⟨hi, hhi⟩ : ∃ hi, hi = (h + k) % 18446744073709551616 := ⟨_, rfl⟩
  obtain ⟨ou, hou⟩ : ∃ ou, ou = (h + k) / 18446744073709551616 := ⟨_, rfl⟩
  have H6 := fun W => add64_call h k uh uk W
  rw [← hhi, ← hou] at H6
  have g1 : ((ou : Int) != 0) = false := by simp; unfold U at *; omega
  have g3 : (mN wd : Int) < hi := by omega
  clear uh uk g hhi hou
  have k1 := ((Slot3.new w (.int .u64 (s : Int)) (.int .u64 (l : Int)) (.int .u64 (h : Int)) 24).alloc (sb t m k)).alloc (z3)
  have k2 := (Slot3.new (w.alloc (sb s l h)) (.int .u64 (t : Int)) (.int .u64 (m : Int)) (.int .u64 (k : Int)) 24).alloc (z3)
  have k3 := Slot3.new ((w.alloc (sb s l h)).alloc (sb t m k)) (.int .u64 0) (.int .u64 0) (.int .u64 0) 24
  have hb0 : Below w.heap.size w (((w.alloc (sb s l h)).alloc (sb t m k)).alloc (z3)) := (((Below.refl _ _).alloc (Nat.le_refl _) _).alloc (by simp) _).alloc (by simp; omega) _
  simp only [World.size_alloc] at k2 k3
  have HS := Lib.hid (mk3 k1 k2 k3 hb0)
  have cp := (hb0.cell (p := ⟨p, 0, none⟩) hp).trans hcp
  simp only [sb, z3] at cp
  clear k1 k2 k3 hb0
  go_enter Tryd.func36, Tryd.ntmps36
  go_wp2_with (go_at_call 32; refine (mask_any _ _ (HM.out.own (HS.out.2.2.2.2.2.2.2.2.2.2.2.2.2.2.2.2.2.2.2.2.2))).mono ?_; rintro e w' ⟨rfl, rfl⟩)
  go_at_call 38
  refine (all_any _ _ (HM.out.own (HS.out.2.2.2.2.2.2.2.2.2.2.2.2.2.2.2.2.2.2.2.2.2))).mono ?_
  rintro e W' ⟨rfl, hb1⟩
  replace HS := Lib.hid (keep3 hb1 HS.out (Nat.le_refl _))
  clear hb1
  obtain ⟨a0, a1, a2, a3, a4, a5, a6, b0, b1, b2, b3, b4, b5, b6, c0, c1, c2, c3, c4, c5, c6, hg⟩ := HS.out
  go_wp2_with fail
  refine bodyPost_ret (v := sv 1 0 (mN wd)) (by simp [results, Tryd.results36, go_sem, *]) rfl ⟨rfl, hg.trans ?_⟩
  go_grown
set_option maxHeartbeats 2000000 in
theorem add2_ok (s l h t m k : Nat) (wd : Int) (p : Nat) (us : U s) (ut : U t) (uh : U h) (uk : U k) (hl : l ≤ h) (hk : m ≤ k) (g : h + k < 18446744073709551616) (g2 : ¬ mN wd < h + k) (z0 z1 z2 : Nat) (hz : ∀ W, Calls Tryd.prog 23 #[.int .u64 (l + m : Nat), .int .u64 (h + k : Nat), .int .u64 (Nat.gcd s t : Nat)] W fun e w2 => e = .returned (sv z0 z1 z2) ∧ Below W.heap.size W w2) (w : World) (hm : Mk w) (hp : p < w.heap.size) (hcp : w.cell? ⟨p, 0, none⟩ = some (.int .i64 wd)) :
    Calls Tryd.prog 36 #[sv s l h, sv t m k, .pointer (some ⟨p, 0, none⟩)] w fun e w' => e = .returned (sv z0 z1 z2) ∧ Below w.heap.size w w' := by
  have HM := Lib.hid hm
  clear hm
  obtain ⟨hi, hhi⟩ : ∃ hi, hi = (h + k) % 18446744073709551616 := ⟨_, rfl⟩
  obtain ⟨ou, hou⟩ : ∃ ou, ou = (h + k) / 18446744073709551616 := ⟨_, rfl⟩
  have H6 := fun W => add64_call h k uh uk W
  rw [← hhi, ← hou] at H6
  have g1 : ((ou : Int) != 0) = false := by simp; unfold U at *; omega
  have g3 : ¬ (mN wd : Int) < hi := by omega
  have e1 : hi = h + k := by omega
  rw [← e1] at hz
  have u1 : (l : Int) + m ≤ 18446744073709551615 := by omega
  have e2 : ((l + m : Nat) : Int) = IntKind.u64.wrap ((l : Int) + m) := by rw [IntKind.wrap_u64]; omega
  rw [e2] at hz
  have HZ := Lib.hid hz
  clear uh uk g hhi hou hz e1 e2
  have k1 := ((Slot3.new w (.int .u64 (s : Int)) (.int .u64 (l : Int)) (.int .u64 (h : Int)) 24).alloc (sb t m k)).alloc (z3)
  have k2 := (Slot3.new (w.alloc (sb s l h)) (.int .u64 (t : Int)) (.int .u64 (m : Int)) (.int .u64 (k : Int)) 24).alloc (z3)
  have k3 := Slot3.new ((w.alloc (sb s l h)).alloc (sb t m k)) (.int .u64 0) (.int .u64 0) (.int .u64 0) 24
  have hb0 : Below w.heap.size w (((w.alloc (sb s l h)).alloc (sb t m k)).alloc (z3)) := (((Below.refl _ _).alloc (Nat.le_refl _) _).alloc (by simp) _).alloc (by simp; omega) _
  simp only [World.size_alloc] at k2 k3
  have HS := Lib.hid (mk3 k1 k2 k3 hb0)
  have cp := (hb0.cell (p := ⟨p, 0, none⟩) hp).trans hcp
  simp only [sb, z3] at cp
  clear k1 k2 k3 hb0
  go_enter Tryd.func36, Tryd.ntmps36
  go_wp2_with (go_at_call 32; refine (mask_any _ _ (HM.out.own (HS.out.2.2.2.2.2.2.2.2.2.2.2.2.2.2.2.2.2.2.2.2.2))).mono ?_; rintro e w' ⟨rfl, rfl⟩)
  replace HS := Lib.hid (ofS3 HS.out)
  refine wp_region_noPanic ?_
  refine wp_region_held_drew (S := fun W => W.cell? ⟨w.heap.size, 0, none⟩ = some (.int .u64 (s : Int)) ∧ W.cell? ⟨w.heap.size, 1, none⟩ = some (.int .u64 (l : Int)) ∧ W.cell? ⟨w.heap.size, 2, none⟩ = some (.int .u64 (h : Int)) ∧ W.frozen? ⟨w.heap.size, 0, none⟩ = false ∧ W.frozen? ⟨w.heap.size, 1, none⟩ = false ∧ W.frozen? ⟨w.heap.size, 2, none⟩ = false ∧ w.heap.size < W.heap.size ∧ W.cell? ⟨w.heap.size + 1, 0, none⟩ = some (.int .u64 (t : Int)) ∧ W.cell? ⟨w.heap.size + 1, 1, none⟩ = some (.int .u64 (m : Int)) ∧ W.cell? ⟨w.heap.size + 1, 2, none⟩ = some (.int .u64 (k : Int)) ∧ W.frozen? ⟨w.heap.size + 1, 0, none⟩ = false ∧ W.frozen? ⟨w.heap.size + 1, 1, none⟩ = false ∧ W.frozen? ⟨w.heap.size + 1, 2, none⟩ = false ∧ w.heap.size + 1 < W.heap.size ∧ W.cell? ⟨w.heap.size + 1 + 1, 0, none⟩ = some (cellv W (w.heap.size + 1 + 1) 0) ∧ W.cell? ⟨w.heap.size + 1 + 1, 1, none⟩ = some (cellv W (w.heap.size + 1 + 1) 1) ∧ W.cell? ⟨w.heap.size + 1 + 1, 2, none⟩ = some (cellv W (w.heap.size + 1 + 1) 2) ∧ W.frozen? ⟨w.heap.size + 1 + 1, 0, none⟩ = false ∧ W.frozen? ⟨w.heap.size + 1 + 1, 1, none⟩ = false ∧ W.frozen? ⟨w.heap.size + 1 + 1, 2, none⟩ = false ∧ w.heap.size + 1 + 1 < W.heap.size ∧ Below w.heap.size w W) (by kernel_rfl) ?_ (fun hHeld => ?_)
  · (first | (with_reducible assumption) | (with_reducible exact drewR HS.out) | (with_reducible exact stR (by omega) (by omega) (by omega) (by assumption)) | (with_reducible exact keepR3 (by assumption) (by assumption) (Nat.le_refl _)) | fail)
  refine wpAnyH_take (i := 0) (v := ?_) rfl (by kernel_rfl) (by kernel_rfl) (by kernel_rfl) (fun _ _ _ h => h) (Or.inl ⟨by rfl, ?_⟩) (by assumption) ?_
  rotate_left
  · intro w hSw
    go_simp
    try with_reducible rfl
  simp only [Act.put, List.setIfInBounds_toArray, List.set_cons_zero, List.set_cons_succ]
  refine wpAnyH_take (i := 1) (v := ?_) rfl (by kernel_rfl) (by kernel_rfl) (by kernel_rfl) (fun _ _ _ h => h) (Or.inl ⟨by rfl, ?_⟩) (by assumption) ?_
  rotate_left
  · intro w hSw
    go_simp
    try with_reducible rfl
  simp only [Act.put, List.setIfInBounds_toArray, List.set_cons_zero, List.set_cons_succ]
  refine wpAnyH_take (i := 2) (v := ?_) rfl (by kernel_rfl) (by kernel_rfl) (by kernel_rfl) (fun _ _ _ h => h) (Or.inl ⟨by rfl, ?_⟩) (by assumption) ?_
  rotate_left
  · intro w hSw
    go_simp
    try with_reducible rfl
  simp only [Act.put, List.setIfInBounds_toArray, List.set_cons_zero, List.set_cons_succ]
  refine wpAnyH_take (i := 3) (v := ?_) rfl (by kernel_rfl) (by kernel_rfl) (by kernel_rfl) (fun _ _ _ h => h) (Or.inl ⟨by rfl, ?_⟩) (by assumption) ?_
  rotate_left
  · intro w hSw
    go_simp
    try with_reducible rfl
  simp only [Act.put, List.setIfInBounds_toArray, List.set_cons_zero, List.set_cons_succ]
  refine wpAnyH_take (i := 4) (v := ?_) rfl (by kernel_rfl) (by kernel_rfl) (by kernel_rfl) (fun _ _ _ h => h) (Or.inl ⟨by rfl, ?_⟩) (by assumption) ?_
  rotate_left
  · intro w hSw
    go_simp
    try with_reducible rfl
  simp only [Act.put, List.setIfInBounds_toArray, List.set_cons_zero, List.set_cons_succ]
  refine wpAnyH_take (i := 5) (v := ?_) rfl (by kernel_rfl) (by kernel_rfl) (by kernel_rfl) (fun _ _ _ h => h) (Or.inl ⟨by rfl, ?_⟩) (by assumption) ?_
  rotate_left
  · intro w hSw
    go_simp
    try with_reducible rfl
  simp only [Act.put, List.setIfInBounds_toArray, List.set_cons_zero, List.set_cons_succ]
  refine wpAnyH_take (i := 6) (v := ?_) rfl (by kernel_rfl) (by kernel_rfl) (by kernel_rfl) (fun _ _ _ h => h) (Or.inl ⟨by rfl, ?_⟩) (by assumption) ?_
  rotate_left
  · intro w hSw
    go_simp
    try with_reducible rfl
  simp only [Act.put, List.setIfInBounds_toArray, List.set_cons_zero, List.set_cons_succ]
  refine wpAnyH_take (i := 7) (v := ?_) rfl (by kernel_rfl) (by kernel_rfl) (by kernel_rfl) (fun _ _ _ h => h) (Or.inl ⟨by rfl, ?_⟩) (by assumption) ?_
  rotate_left
  · intro w hSw
    go_simp
    try with_reducible rfl
  simp only [Act.put, List.setIfInBounds_toArray, List.set_cons_zero, List.set_cons_succ]
  refine wpAnyH_take (i := 8) (v := ?_) rfl (by kernel_rfl) (by kernel_rfl) (by kernel_rfl) (fun _ _ _ h => h) (Or.inl ⟨by rfl, ?_⟩) (by assumption) ?_
  rotate_left
  · intro w hSw
    go_simp
    try with_reducible rfl
  simp only [Act.put, List.setIfInBounds_toArray, List.set_cons_zero, List.set_cons_succ]
  refine wpAnyH_take (i := 9) (v := ?_) rfl (by kernel_rfl) (by kernel_rfl) (by kernel_rfl) (fun _ _ _ h => h) (Or.inl ⟨by rfl, ?_⟩) (by assumption) ?_
  rotate_left
  · intro w hSw
    go_simp
    try with_reducible rfl
  simp only [Act.put, List.setIfInBounds_toArray, List.set_cons_zero, List.set_cons_succ]
  refine wpAnyH_ready (rs := [10]) (by kernel_rfl) (by simp) ?_
  refine AllReadyH.cons rfl (fun K hK => ?_) AllReadyH.nil
  go_simp; go_at_call 29; (with_reducible refine (divisor_bel _ _ us ut _).mono ?_); rintro e w1 ⟨rfl, hb1⟩
  refine hK.out _ _ ?_ (fun hHeld => ?_)
  · (first | (with_reducible assumption) | (with_reducible exact drewR HS.out) | (with_reducible exact stR (by omega) (by omega) (by omega) (by assumption)) | (with_reducible exact keepR3 (by assumption) (by assumption) (Nat.le_refl _)) | fail)
  clear hK K
  try simp only [Act.put, List.setIfInBounds_toArray, List.set_cons_zero, List.set_cons_succ]
  refine wpAnyH_ready (rs := [11]) (by kernel_rfl) (by simp) ?_
  refine AllReadyH.cons rfl (fun K hK => ?_) AllReadyH.nil
  go_simp; go_at_call 23; (with_reducible refine (HZ.out _).mono ?_); rintro e w1 ⟨rfl, hb1⟩
  refine hK.out _ _ ?_ (fun hHeld => ?_)
  · (first | (with_reducible assumption) | (with_reducible exact drewR HS.out) | (with_reducible exact stR (by omega) (by omega) (by omega) (by assumption)) | (with_reducible exact keepR3 (by assumption) (by assumption) (Nat.le_refl _)) | fail)
  clear hK K
  try simp only [Act.put, List.setIfInBounds_toArray, List.set_cons_zero, List.set_cons_succ]
  refine wpAnyH_ready (rs := [12]) (by kernel_rfl) (by simp) ?_
  refine AllReadyH.cons rfl (fun K hK => ?_) AllReadyH.nil
  go_simp
  refine hK.out _ _ ?_ (fun hHeld => ?_)
  · (first | (with_reducible assumption) | (with_reducible exact drewR HS.out) | (with_reducible exact stR (by omega) (by omega) (by omega) (by assumption)) | (with_reducible exact keepR3 (by assumption) (by assumption) (Nat.le_refl _)) | fail)
  clear hK K
  try simp only [Act.put, List.setIfInBounds_toArray, List.set_cons_zero, List.set_cons_succ]
  refine wpAnyH_done (by kernel_rfl) ?_ _
  refine NoPanic.normal ?_
  have hG := hHeld.2.2.2.2.2.2.2.2.2.2.2.2.2.2.2.2.2.2.2.2.2
  clear hHeld
  go_wp2
  refine bodyPost_ret (v := sv z0 z1 z2) (by simp [results, Tryd.results36, go_sem, *]) rfl ⟨rfl, hG⟩
set_option maxHeartbeats 2000000 in
theorem sub2_big (s l h t m k : Nat) (wd : Int) (p : Nat) (g : l < k) (w : World) (hm : Mk w) (hp : p < w.heap.size) (hcp : w.cell? ⟨p, 0, none⟩ = some (.int .i64 wd)) :
    Calls Tryd.prog 40 #[sv s l h, sv t m k, .pointer (some ⟨p, 0, none⟩)] w fun e w' => e = .returned (sv 1 0 (mN wd)) ∧ Below w.heap.size w w' := by
  have HM := Lib.hid hm
  clear hm
  have k1 := ((Slot3.new w (.int .u64 (s : Int)) (.int .u64 (l : Int)) (.int .u64 (h : Int)) 24).alloc (sb t m k)).alloc (z3)
  have k2 := (Slot3.new (w.alloc (sb s l h)) (.int .u64 (t : Int)) (.int .u64 (m : Int)) (.int .u64 (k : Int)) 24).alloc (z3)
  have k3 := Slot3.new ((w.alloc (sb s l h)).alloc (sb t m k)) (.int .u64 0) (.int .u64 0) (.int .u64 0) 24
  have hb0 : Below w.heap.size w (((w.alloc (sb s l h)).alloc (sb t m k)).alloc (z3)) := (((Below.refl _ _).alloc (Nat.le_refl _) _).alloc (by simp) _).alloc (by simp; omega) _
  simp only [World.size_alloc] at k2 k3
  have HS := Lib.hid (mk3 k1 k2 k3 hb0)
  have cp := (hb0.cell (p := ⟨p, 0, none⟩) hp).trans hcp
  simp only [sb, z3] at cp
  clear k1 k2 k3 hb0
  go_enter Tryd.func40, Tryd.ntmps40
  go_wp2_with fail
  go_at_call 38
  refine (all_any _ _ (HM.out.own (HS.out.2.2.2.2.2.2.2.2.2.2.2.2.2.2.2.2.2.2.2.2.2))).mono ?_
  rintro e W' ⟨rfl, hb1⟩
  replace HS := Lib.hid (keep3 hb1 HS.out (Nat.le_refl _))
  clear hb1
  obtain ⟨a0, a1, a2, a3, a4, a5, a6, b0, b1, b2, b3, b4, b5, b6, c0, c1, c2, c3, c4, c5, c6, hg⟩ := HS.out
  go_wp2_with fail
  refine bodyPost_ret (v := sv 1 0 (mN wd)) (by simp [results, Tryd.results40, go_sem, *]) rfl ⟨rfl, hg.trans ?_⟩
  go_grown
set_option maxHeartbeats 2000000 in
theorem sub2_ok (s l h t m k : Nat) (wd : Int) (p : Nat) (us : U s) (ut : U t) (uh : U h) (hl : l ≤ h) (hk : m ≤ k) (g : ¬ l < k) (z0 z1 z2 : Nat) (hz : ∀ W, Calls Tryd.prog 23 #[.int .u64 (l - k : Nat), .int .u64 (h - m : Nat), .int .u64 (Nat.gcd s t : Nat)] W fun e w2 => e = .returned (sv z0 z1 z2) ∧ Below W.heap.size W w2) (w : World) (hm : Mk w) (hp : p < w.heap.size) (hcp : w.cell? ⟨p, 0, none⟩ = some (.int .i64 wd)) :
    Calls Tryd.prog 40 #[sv s l h, sv t m k, .pointer (some ⟨p, 0, none⟩)] w fun e w' => e = .returned (sv z0 z1 z2) ∧ Below w.heap.size w w' := by
  have HM := Lib.hid hm
  clear hm
  have u1 : (h : Int) ≤ 18446744073709551615 := by unfold U at uh; omega
  have e1 : ((l - k : Nat) : Int) = IntKind.u64.wrap ((l : Int) - k) := by rw [IntKind.wrap_u64]; omega
  have e2 : ((h - m : Nat) : Int) = IntKind.u64.wrap ((h : Int) - m) := by rw [IntKind.wrap_u64]; omega
  rw [e1, e2] at hz
  have HZ := Lib.hid hz
  clear uh hz e1 e2
  have k1 := ((Slot3.new w (.int .u64 (s : Int)) (.int .u64 (l : Int)) (.int .u64 (h : Int)) 24).alloc (sb t m k)).alloc (z3)
  have k2 := (Slot3.new (w.alloc (sb s l h)) (.int .u64 (t : Int)) (.int .u64 (m : Int)) (.int .u64 (k : Int)) 24).alloc (z3)
  have k3 := Slot3.new ((w.alloc (sb s l h)).alloc (sb t m k)) (.int .u64 0) (.int .u64 0) (.int .u64 0) 24
  have hb0 : Below w.heap.size w (((w.alloc (sb s l h)).alloc (sb t m k)).alloc (z3)) := (((Below.refl _ _).alloc (Nat.le_refl _) _).alloc (by simp) _).alloc (by simp; omega) _
  simp only [World.size_alloc] at k2 k3
  have HS := Lib.hid (mk3 k1 k2 k3 hb0)
  have cp := (hb0.cell (p := ⟨p, 0, none⟩) hp).trans hcp
  simp only [sb, z3] at cp
  clear k1 k2 k3 hb0
  go_enter Tryd.func40, Tryd.ntmps40
  go_wp2_with fail
  replace HS := Lib.hid (ofS3 HS.out)
  refine wp_region_noPanic ?_
  refine wp_region_held_drew (S := fun W => W.cell? ⟨w.heap.size, 0, none⟩ = some (.int .u64 (s : Int)) ∧ W.cell? ⟨w.heap.size, 1, none⟩ = some (.int .u64 (l : Int)) ∧ W.cell? ⟨w.heap.size, 2, none⟩ = some (.int .u64 (h : Int)) ∧ W.frozen? ⟨w.heap.size, 0, none⟩ = false ∧ W.frozen? ⟨w.heap.size, 1, none⟩ = false ∧ W.frozen? ⟨w.heap.size, 2, none⟩ = false ∧ w.heap.size < W.heap.size ∧ W.cell? ⟨w.heap.size + 1, 0, none⟩ = some (.int .u64 (t : Int)) ∧ W.cell? ⟨w.heap.size + 1, 1, none⟩ = some (.int .u64 (m : Int)) ∧ W.cell? ⟨w.heap.size + 1, 2, none⟩ = some (.int .u64 (k : Int)) ∧ W.frozen? ⟨w.heap.size + 1, 0, none⟩ = false ∧ W.frozen? ⟨w.heap.size + 1, 1, none⟩ = false ∧ W.frozen? ⟨w.heap.size + 1, 2, none⟩ = false ∧ w.heap.size + 1 < W.heap.size ∧ W.cell? ⟨w.heap.size + 1 + 1, 0, none⟩ = some (cellv W (w.heap.size + 1 + 1) 0) ∧ W.cell? ⟨w.heap.size + 1 + 1, 1, none⟩ = some (cellv W (w.heap.size + 1 + 1) 1) ∧ W.cell? ⟨w.heap.size + 1 + 1, 2, none⟩ = some (cellv W (w.heap.size + 1 + 1) 2) ∧ W.frozen? ⟨w.heap.size + 1 + 1, 0, none⟩ = false ∧ W.frozen? ⟨w.heap.size + 1 + 1, 1, none⟩ = false ∧ W.frozen? ⟨w.heap.size + 1 + 1, 2, none⟩ = false ∧ w.heap.size + 1 + 1 < W.heap.size ∧ Below w.heap.size w W) (by kernel_rfl) ?_ (fun hHeld => ?_)
  · (first | (with_reducible assumption) | (with_reducible exact drewR HS.out) | (with_reducible exact stR (by omega) (by omega) (by omega) (by assumption)) | (with_reducible exact keepR3 (by assumption) (by assumption) (Nat.le_refl _)) | fail)
  refine wpAnyH_take (i := 0) (v := ?_) rfl (by kernel_rfl) (by kernel_rfl) (by kernel_rfl) (fun _ _ _ h => h) (Or.inl ⟨by rfl, ?_⟩) (by assumption) ?_
  rotate_left
  · intro w hSw
    go_simp
    try with_reducible rfl
  simp only [Act.put, List.setIfInBounds_toArray, List.set_cons_zero, List.set_cons_succ]
  refine wpAnyH_take (i := 1) (v := ?_) rfl (by kernel_rfl) (by kernel_rfl) (by kernel_rfl) (fun _ _ _ h => h) (Or.inl ⟨by rfl, ?_⟩) (by assumption) ?_
  rotate_left
  · intro w hSw
    go_simp
    try with_reducible rfl
  simp only [Act.put, List.setIfInBounds_toArray, List.set_cons_zero, List.set_cons_succ]
  refine wpAnyH_take (i := 2) (v := ?_) rfl (by kernel_rfl) (by kernel_rfl) (by kernel_rfl) (fun _ _ _ h => h) (Or.inl ⟨by rfl, ?_⟩) (by assumption) ?_
  rotate_left
  · intro w hSw
    go_simp
    try with_reducible rfl
  simp only [Act.put, List.setIfInBounds_toArray, List.set_cons_zero, List.set_cons_succ]
  refine wpAnyH_take (i := 3) (v := ?_) rfl (by kernel_rfl) (by kernel_rfl) (by kernel_rfl) (fun _ _ _ h => h) (Or.inl ⟨by rfl, ?_⟩) (by assumption) ?_
  rotate_left
  · intro w hSw
    go_simp
    try with_reducible rfl
  simp only [Act.put, List.setIfInBounds_toArray, List.set_cons_zero, List.set_cons_succ]
  refine wpAnyH_take (i := 4) (v := ?_) rfl (by kernel_rfl) (by kernel_rfl) (by kernel_rfl) (fun _ _ _ h => h) (Or.inl ⟨by rfl, ?_⟩) (by assumption) ?_
  rotate_left
  · intro w hSw
    go_simp
    try with_reducible rfl
  simp only [Act.put, List.setIfInBounds_toArray, List.set_cons_zero, List.set_cons_succ]
  refine wpAnyH_take (i := 5) (v := ?_) rfl (by kernel_rfl) (by kernel_rfl) (by kernel_rfl) (fun _ _ _ h => h) (Or.inl ⟨by rfl, ?_⟩) (by assumption) ?_
  rotate_left
  · intro w hSw
    go_simp
    try with_reducible rfl
  simp only [Act.put, List.setIfInBounds_toArray, List.set_cons_zero, List.set_cons_succ]
  refine wpAnyH_take (i := 6) (v := ?_) rfl (by kernel_rfl) (by kernel_rfl) (by kernel_rfl) (fun _ _ _ h => h) (Or.inl ⟨by rfl, ?_⟩) (by assumption) ?_
  rotate_left
  · intro w hSw
    go_simp
    try with_reducible rfl
  simp only [Act.put, List.setIfInBounds_toArray, List.set_cons_zero, List.set_cons_succ]
  refine wpAnyH_take (i := 7) (v := ?_) rfl (by kernel_rfl) (by kernel_rfl) (by kernel_rfl) (fun _ _ _ h => h) (Or.inl ⟨by rfl, ?_⟩) (by assumption) ?_
  rotate_left
  · intro w hSw
    go_simp
    try with_reducible rfl
  simp only [Act.put, List.setIfInBounds_toArray, List.set_cons_zero, List.set_cons_succ]
  refine wpAnyH_take (i := 8) (v := ?_) rfl (by kernel_rfl) (by kernel_rfl) (by kernel_rfl) (fun _ _ _ h => h) (Or.inl ⟨by rfl, ?_⟩) (by assumption) ?_
  rotate_left
  · intro w hSw
    go_simp
    try with_reducible rfl
  simp only [Act.put, List.setIfInBounds_toArray, List.set_cons_zero, List.set_cons_succ]
  refine wpAnyH_take (i := 9) (v := ?_) rfl (by kernel_rfl) (by kernel_rfl) (by kernel_rfl) (fun _ _ _ h => h) (Or.inl ⟨by rfl, ?_⟩) (by assumption) ?_
  rotate_left
  · intro w hSw
    go_simp
    try with_reducible rfl
  simp only [Act.put, List.setIfInBounds_toArray, List.set_cons_zero, List.set_cons_succ]
  refine wpAnyH_take (i := 10) (v := ?_) rfl (by kernel_rfl) (by kernel_rfl) (by kernel_rfl) (fun _ _ _ h => h) (Or.inl ⟨by rfl, ?_⟩) (by assumption) ?_
  rotate_left
  · intro w hSw
    go_simp
    try with_reducible rfl
  simp only [Act.put, List.setIfInBounds_toArray, List.set_cons_zero, List.set_cons_succ]
  refine wpAnyH_take (i := 11) (v := ?_) rfl (by kernel_rfl) (by kernel_rfl) (by kernel_rfl) (fun _ _ _ h => h) (Or.inl ⟨by rfl, ?_⟩) (by assumption) ?_
  rotate_left
  · intro w hSw
    go_simp
    try with_reducible rfl
  simp only [Act.put, List.setIfInBounds_toArray, List.set_cons_zero, List.set_cons_succ]
  refine wpAnyH_take (i := 12) (v := ?_) rfl (by kernel_rfl) (by kernel_rfl) (by kernel_rfl) (fun _ _ _ h => h) (Or.inl ⟨by rfl, ?_⟩) (by assumption) ?_
  rotate_left
  · intro w hSw
    go_simp
    try with_reducible rfl
  simp only [Act.put, List.setIfInBounds_toArray, List.set_cons_zero, List.set_cons_succ]
  refine wpAnyH_take (i := 13) (v := ?_) rfl (by kernel_rfl) (by kernel_rfl) (by kernel_rfl) (fun _ _ _ h => h) (Or.inl ⟨by rfl, ?_⟩) (by assumption) ?_
  rotate_left
  · intro w hSw
    go_simp
    try with_reducible rfl
  simp only [Act.put, List.setIfInBounds_toArray, List.set_cons_zero, List.set_cons_succ]
  refine wpAnyH_ready (rs := [14]) (by kernel_rfl) (by simp) ?_
  refine AllReadyH.cons rfl (fun K hK => ?_) AllReadyH.nil
  go_simp; go_at_call 29; (with_reducible refine (divisor_bel _ _ us ut _).mono ?_); rintro e w1 ⟨rfl, hb1⟩
  refine hK.out _ _ ?_ (fun hHeld => ?_)
  · (first | (with_reducible assumption) | (with_reducible exact drewR HS.out) | (with_reducible exact stR (by omega) (by omega) (by omega) (by assumption)) | (with_reducible exact keepR3 (by assumption) (by assumption) (Nat.le_refl _)) | fail)
  clear hK K
  try simp only [Act.put, List.setIfInBounds_toArray, List.set_cons_zero, List.set_cons_succ]
  refine wpAnyH_ready (rs := [15]) (by kernel_rfl) (by simp) ?_
  refine AllReadyH.cons rfl (fun K hK => ?_) AllReadyH.nil
  go_simp; go_at_call 23; (with_reducible refine (HZ.out _).mono ?_); rintro e w1 ⟨rfl, hb1⟩
  refine hK.out _ _ ?_ (fun hHeld => ?_)
  · (first | (with_reducible assumption) | (with_reducible exact drewR HS.out) | (with_reducible exact stR (by omega) (by omega) (by omega) (by assumption)) | (with_reducible exact keepR3 (by assumption) (by assumption) (Nat.le_refl _)) | fail)
  clear hK K
  try simp only [Act.put, List.setIfInBounds_toArray, List.set_cons_zero, List.set_cons_succ]
  refine wpAnyH_ready (rs := [16]) (by kernel_rfl) (by simp) ?_
  refine AllReadyH.cons rfl (fun K hK => ?_) AllReadyH.nil
  go_simp
  refine hK.out _ _ ?_ (fun hHeld => ?_)
  · (first | (with_reducible assumption) | (with_reducible exact drewR HS.out) | (with_reducible exact stR (by omega) (by omega) (by omega) (by assumption)) | (with_reducible exact keepR3 (by assumption) (by assumption) (Nat.le_refl _)) | fail)
  clear hK K
  try simp only [Act.put, List.setIfInBounds_toArray, List.set_cons_zero, List.set_cons_succ]
  refine wpAnyH_done (by kernel_rfl) ?_ _
  refine NoPanic.normal ?_
  have hG := hHeld.2.2.2.2.2.2.2.2.2.2.2.2.2.2.2.2.2.2.2.2.2
  clear hHeld
  go_wp2
  refine bodyPost_ret (v := sv z0 z1 z2) (by simp [results, Tryd.results40, go_sem, *]) rfl ⟨rfl, hG⟩
end Go.Proofs.YtmlgaaolofgdiaaDoor
