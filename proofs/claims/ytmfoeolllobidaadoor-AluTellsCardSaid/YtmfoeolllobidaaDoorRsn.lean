/- The document's own shifts: how many bits, and where nothing is shifted. -/
import Derived.Test.YtmfoeolllobidaaDoorInc
import Derived.Test.YtmfoeolllobidaaDoorSha
import Derived.Deep.DeepCutAuto
namespace Go.Proofs.YtmfoeolllobidaaDoor
open Go.RowKit Go.Shelf
set_option linter.unusedSimpArgs false
set_option linter.unusedVariables false
attribute [local go_sem] Oper.semAt_some
theorem rcount4 (wd : Int) (m : Nat) (hm : m < 256) (h8 : (hI wd == 8) = false) (w : World) : Calls Tryd.prog 44 #[.int .i64 wd, .int .u8 (m : Int)] w fun e w' => e = .returned (.int .i64 ((m % 32 : Nat) : Int)) ∧ w = w' := by
  have h : ¬ wd ≥ 8 := by intro h; unfold hI at h8; simp at h8; split at h8 <;> (try split at h8) <;> omega
  go_enter Tryd.func44, Tryd.ntmps44
  go_wp2
  go_ret
  simp
theorem rcount8 (wd : Int) (m : Nat) (hm : m < 256) (h8 : (hI wd == 8) = true) (w : World) : Calls Tryd.prog 44 #[.int .i64 wd, .int .u8 (m : Int)] w fun e w' => e = .returned (.int .i64 ((m % 64 : Nat) : Int)) ∧ w = w' := by
  have h : wd - 8 ≥ 0 := by unfold hI at h8; simp at h8; split at h8 <;> (try split at h8) <;> omega
  go_enter Tryd.func44, Tryd.ntmps44
  go_wp2
  go_ret
  simp
set_option maxRecDepth 100000 in
set_option maxHeartbeats 1000000 in
theorem rsh_none0 (x a m k : Nat) (K : Int) (wd : Int) (c z s o p : Bool) (h0 : k = 0)
    (hcount : ∀ W, Calls Tryd.prog 44 #[.int .i64 wd, .int .u8 (m : Int)] W fun e w' => e = .returned (.int .i64 (k : Int)) ∧ W = w')
    (hcut : ∀ W, Calls Tryd.prog 29 #[.int .u64 (x : Int), .int .i64 wd] W fun e w' => e = .returned (.int .u64 (a : Int)) ∧ W = w') (w : World) :
    Calls Tryd.prog 21 #[.int .u8 K, .int .i64 wd, .int .u64 x, .int .u8 (m : Int), fl c z s o p] w fun e w' => e = .returned (.tuple #[.int .u64 (a : Nat), fl c z s o p]) ∧ Below w.heap.size w w' := by
  have HCOUNT := Lib.hid hcount
  have HCUT := Lib.hid hcut
  have ek : ((k : Int) == 0) = true := by simp; omega
  clear hcount hcut
  go_enter Tryd.func21, Tryd.ntmps21
  go_wp2_with (first | (go_at_call 44; (with_reducible refine (HCOUNT.out _).mono ?_); rintro e w1 ⟨rfl, rfl⟩) | (go_at_call 29; (with_reducible refine (HCUT.out _).mono ?_); rintro e w1 ⟨rfl, rfl⟩))
  have h2 := F5.new (w.alloc (flw c z s o p)) false false false false false
  rw [World.size_alloc] at h2
  have hR : Hid (Rt w (w.heap.size) c z s o p (w.heap.size + 1) ((w.alloc (flw c z s o p)).alloc fl0)) := Lib.hid ⟨(F5.new w c z s o p).alloc fl0, ⟨_, _, _, _, _, h2⟩, ((Below.refl _ _).alloc (Nat.le_refl _) _).alloc (by simp) _⟩
  clear h2
  generalize World.alloc (World.alloc _ _) _ = W3 at hR ⊢
  refine wp_region_noPanic ?_
  refine wp_region_held_drew (S := fun W => Rt w (w.heap.size) c z s o p (w.heap.size + 1) W) (by kernel_rfl) ?_ (fun hHeld => ?_)
  · exact hR.out.drew
  generalize World.drew _ = W4 at hHeld ⊢
  refine wpAnyH_take (i := 0) (v := ?_) rfl (by kernel_rfl) (by kernel_rfl) (by kernel_rfl) (fun _ _ _ h => h) (Or.inl ⟨by kernel_rfl, ?_⟩) (by assumption) ?_
  rotate_left
  · intro w hSw
    go_simp
    try with_reducible rfl
  simp only [Act.put, List.setIfInBounds_toArray, List.set_cons_zero, List.set_cons_succ, List.getElem_toArray, List.getElem_cons_succ, List.getElem_cons_zero]
  refine wpAnyH_take (i := 1) (v := ?_) rfl (by kernel_rfl) (by kernel_rfl) (by kernel_rfl) (fun _ _ _ h => h) (Or.inl ⟨by kernel_rfl, ?_⟩) (by assumption) ?_
  rotate_left
  · intro w hSw
    obtain ⟨g0, g1, g2, g3, g4⟩ := hSw.1.c
    go_simp
    try with_reducible rfl
  simp only [Act.put, List.setIfInBounds_toArray, List.set_cons_zero, List.set_cons_succ, List.getElem_toArray, List.getElem_cons_succ, List.getElem_cons_zero]
  refine wpAnyH_ready (rs := [2]) (by kernel_rfl) (by simp) ?_
  refine AllReadyH.cons rfl (fun K hK => ?_) AllReadyH.nil
  go_simp
  refine hK.out _ _ hHeld (fun hHeld2 => ?_)
  clear hK K hHeld
  have hHeld := hHeld2
  clear hHeld2
  try simp only [Act.put, List.setIfInBounds_toArray, List.set_cons_zero, List.set_cons_succ, List.getElem_toArray, List.getElem_cons_succ, List.getElem_cons_zero]
  refine wpAnyH_ready (rs := [3]) (by kernel_rfl) (by simp) ?_
  refine AllReadyH.cons rfl (fun K hK => ?_) AllReadyH.nil
  obtain ⟨y0, y1, y2, y3, y4, hy⟩ := hHeld.2.1
  obtain ⟨g0, g1, g2, g3, g4⟩ := hy.c
  obtain ⟨f0, f1, f2, f3, f4⟩ := hy.f
  go_simp
  have h9 := Lib.hid (hHeld.put (by omega))
  refine hK.out _ _ h9.out.1 (fun hHeld2 => ?_)
  clear hK K hHeld hHeld2 g0 g1 g2 g3 g4 f0 f1 f2 f3 f4 hy
  try simp only [Act.put, List.setIfInBounds_toArray, List.set_cons_zero, List.set_cons_succ, List.getElem_toArray, List.getElem_cons_succ, List.getElem_cons_zero]
  refine wpAnyH_done (by kernel_rfl) ?_ _
  refine NoPanic.normal ?_
  generalize World.setCell (World.setCell (World.setCell (World.setCell (World.setCell _ _ _) _ _) _ _) _ _) _ _ = W9 at h9 ⊢
  obtain ⟨⟨_, _, hbl⟩, hF⟩ := h9.out
  obtain ⟨g0, g1, g2, g3, g4⟩ := hF.c
  clear h9
  go_wp2
  exact bodyPost_ret (v := .tuple #[.int .u64 (a : Nat), fl c z s o p]) (by simp [results, Tryd.results21, go_sem, *]) rfl ⟨rfl, hbl⟩
set_option maxRecDepth 100000 in
set_option maxHeartbeats 1000000 in
theorem rsh_noneK (x a m k : Nat) (K : Int) (wd : Int) (c z s o p : Bool) (hK : K ≠ 16 ∧ K ≠ 17 ∧ K ≠ 18 ∧ K ≠ 19 ∧ K ≠ 20) (h0 : 0 < k)
    (hcount : ∀ W, Calls Tryd.prog 44 #[.int .i64 wd, .int .u8 (m : Int)] W fun e w' => e = .returned (.int .i64 (k : Int)) ∧ W = w')
    (hcut : ∀ W, Calls Tryd.prog 29 #[.int .u64 (x : Int), .int .i64 wd] W fun e w' => e = .returned (.int .u64 (a : Int)) ∧ W = w') (w : World) :
    Calls Tryd.prog 21 #[.int .u8 K, .int .i64 wd, .int .u64 x, .int .u8 (m : Int), fl c z s o p] w fun e w' => e = .returned (.tuple #[.int .u64 (a : Nat), fl c z s o p]) ∧ Below w.heap.size w w' := by
  have HCOUNT := Lib.hid hcount
  have HCUT := Lib.hid hcut
  have ek : ((k : Int) == 0) = false := by simp; omega
  obtain ⟨q0, q1, q2, q3, q4⟩ := hK
  have e0 : (K != 16) = true := by simp [q0]
  have e1 : (K != 17) = true := by simp [q1]
  have e2 : (K != 18) = true := by simp [q2]
  have e3 : (K != 19) = true := by simp [q3]
  have e4 : (K != 20) = true := by simp [q4]
  clear q0 q1 q2 q3 q4 h0
  clear hcount hcut
  go_enter Tryd.func21, Tryd.ntmps21
  go_wp2_with (first | (go_at_call 44; (with_reducible refine (HCOUNT.out _).mono ?_); rintro e w1 ⟨rfl, rfl⟩) | (go_at_call 29; (with_reducible refine (HCUT.out _).mono ?_); rintro e w1 ⟨rfl, rfl⟩))
  have h2 := F5.new (w.alloc (flw c z s o p)) false false false false false
  rw [World.size_alloc] at h2
  have hR : Hid (Rt w (w.heap.size) c z s o p (w.heap.size + 1) ((w.alloc (flw c z s o p)).alloc fl0)) := Lib.hid ⟨(F5.new w c z s o p).alloc fl0, ⟨_, _, _, _, _, h2⟩, ((Below.refl _ _).alloc (Nat.le_refl _) _).alloc (by simp) _⟩
  clear h2
  generalize World.alloc (World.alloc _ _) _ = W3 at hR ⊢
  refine wp_region_noPanic ?_
  refine wp_region_held_drew (S := fun W => Rt w (w.heap.size) c z s o p (w.heap.size + 1) W) (by kernel_rfl) ?_ (fun hHeld => ?_)
  · exact hR.out.drew
  generalize World.drew _ = W4 at hHeld ⊢
  refine wpAnyH_take (i := 0) (v := ?_) rfl (by kernel_rfl) (by kernel_rfl) (by kernel_rfl) (fun _ _ _ h => h) (Or.inl ⟨by kernel_rfl, ?_⟩) (by assumption) ?_
  rotate_left
  · intro w hSw
    go_simp
    try with_reducible rfl
  simp only [Act.put, List.setIfInBounds_toArray, List.set_cons_zero, List.set_cons_succ, List.getElem_toArray, List.getElem_cons_succ, List.getElem_cons_zero]
  refine wpAnyH_take (i := 1) (v := ?_) rfl (by kernel_rfl) (by kernel_rfl) (by kernel_rfl) (fun _ _ _ h => h) (Or.inl ⟨by kernel_rfl, ?_⟩) (by assumption) ?_
  rotate_left
  · intro w hSw
    obtain ⟨g0, g1, g2, g3, g4⟩ := hSw.1.c
    go_simp
    try with_reducible rfl
  simp only [Act.put, List.setIfInBounds_toArray, List.set_cons_zero, List.set_cons_succ, List.getElem_toArray, List.getElem_cons_succ, List.getElem_cons_zero]
  refine wpAnyH_ready (rs := [2]) (by kernel_rfl) (by simp) ?_
  refine AllReadyH.cons rfl (fun K hK => ?_) AllReadyH.nil
  go_simp
  refine hK.out _ _ hHeld (fun hHeld2 => ?_)
  clear hK K hHeld
  have hHeld := hHeld2
  clear hHeld2
  try simp only [Act.put, List.setIfInBounds_toArray, List.set_cons_zero, List.set_cons_succ, List.getElem_toArray, List.getElem_cons_succ, List.getElem_cons_zero]
  refine wpAnyH_ready (rs := [3]) (by kernel_rfl) (by simp) ?_
  refine AllReadyH.cons rfl (fun K hK => ?_) AllReadyH.nil
  obtain ⟨y0, y1, y2, y3, y4, hy⟩ := hHeld.2.1
  obtain ⟨g0, g1, g2, g3, g4⟩ := hy.c
  obtain ⟨f0, f1, f2, f3, f4⟩ := hy.f
  go_simp
  have h9 := Lib.hid (hHeld.put (by omega))
  refine hK.out _ _ h9.out.1 (fun hHeld2 => ?_)
  clear hK K hHeld hHeld2 g0 g1 g2 g3 g4 f0 f1 f2 f3 f4 hy
  try simp only [Act.put, List.setIfInBounds_toArray, List.set_cons_zero, List.set_cons_succ, List.getElem_toArray, List.getElem_cons_succ, List.getElem_cons_zero]
  refine wpAnyH_done (by kernel_rfl) ?_ _
  refine NoPanic.normal ?_
  generalize World.setCell (World.setCell (World.setCell (World.setCell (World.setCell _ _ _) _ _) _ _) _ _) _ _ = W9 at h9 ⊢
  obtain ⟨⟨_, _, hbl⟩, hF⟩ := h9.out
  obtain ⟨g0, g1, g2, g3, g4⟩ := hF.c
  clear h9
  go_wp2
  exact bodyPost_ret (v := .tuple #[.int .u64 (a : Nat), fl c z s o p]) (by simp [results, Tryd.results21, go_sem, *]) rfl ⟨rfl, hbl⟩
end Go.Proofs.YtmfoeolllobidaaDoor
