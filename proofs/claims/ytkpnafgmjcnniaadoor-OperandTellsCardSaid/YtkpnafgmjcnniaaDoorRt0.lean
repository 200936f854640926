/- The document's own Take. -/
import Derived.Test.YtkpnafgmjcnniaaDoorNr
import Derived.Test.YtkpnafgmjcnniaaDoorRr
namespace Go.Proofs.YtkpnafgmjcnniaaDoor
open Go.RowKit
set_option linter.unusedVariables false
set_option linter.unusedSimpArgs false
/-- The result's block, the bytes, all else as it was. -/
def RT (w : World) (n bb off : Nat) (z : Nat → Nat) (k r b i s d : Int) (p : Bool) (m : Int) (W : World) : Prop :=
  O8 W w.heap.size k r b i s d p m ∧ (∀ j, j < n → W.cell? ⟨bb, off + j, none⟩ = some (.int .u8 (z j : Nat))) ∧ bb < w.heap.size ∧ Below w.heap.size w W
theorem RT.below {w : World} {n bb off : Nat} {z : Nat → Nat} {k r b i s d : Int} {p : Bool} {m : Int} {W W' : World} (h : RT w n bb off z k r b i s d p m W) (hb : Below W.heap.size W W') : RT w n bb off z k r b i s d p m W' :=
  ⟨h.1.keep hb, fun j hj => (hb.cell (p := ⟨bb, off + j, none⟩) (by have := h.2.2.1; have := h.2.2.2.size; show bb < _; omega)).trans (h.2.1 j hj), h.2.2.1, h.2.2.2.trans (hb.mono h.2.2.2.size)⟩
theorem RT.drew {w : World} {n bb off : Nat} {z : Nat → Nat} {k r b i s d : Int} {p : Bool} {m : Int} {W : World} (h : RT w n bb off z k r b i s d p m W) : RT w n bb off z k r b i s d p m W.drew := h.below ((Below.refl _ _).drew)
theorem RT.c0 {w : World} {n bb off : Nat} {z : Nat → Nat} {k r b i s d : Int} {p : Bool} {m : Int} {W : World} (h : RT w n bb off z k r b i s d p m W) (hn : 0 < n) : W.cell? ⟨bb, off, none⟩ = some (.int .u8 (z 0 : Nat)) := h.2.1 0 hn
theorem RT.c1 {w : World} {n bb off : Nat} {z : Nat → Nat} {k r b i s d : Int} {p : Bool} {m : Int} {W : World} (h : RT w n bb off z k r b i s d p m W) (hn : 1 < n) : W.cell? ⟨bb, off + 1, none⟩ = some (.int .u8 (z 1 : Nat)) := h.2.1 1 hn
theorem RT.start (w : World) (n bb off : Nat) (z : Nat → Nat) (hb : bb < w.heap.size) (hc : ∀ j, j < n → w.cell? ⟨bb, off + j, none⟩ = some (.int .u8 (z j : Nat))) : RT w n bb off z 0 0 0 0 0 0 false 0 (w.alloc (ob 0 0 0 0 0 0 false 0)) :=
  have hB := (Below.refl w.heap.size w).alloc (Nat.le_refl _) (ob 0 0 0 0 0 0 false 0)
  ⟨O8.new w _ _ _ _ _ _ _ _, fun j hj => (hB.cell (p := ⟨bb, off + j, none⟩) hb).trans (hc j hj), hb, hB⟩
theorem RT.put {w : World} {n bb off : Nat} {z : Nat → Nat} {k r b i s d : Int} {p : Bool} {m : Int} {W : World} (h : RT w n bb off z k r b i s d p m W) (k' r' b' i' s' d' : Int) (p' : Bool) (m' : Int) : RT w n bb off z k' r' b' i' s' d' p' m' (put8 W w.heap.size k' r' b' i' s' d' p' m') :=
  have hB := below_put8 h.2.2.2 (Nat.le_refl _) k' r' b' i' s' d' p' m'
  ⟨h.1.put _ _ _ _ _ _ _ _, fun j hj => (hB.cell (p := ⟨bb, off + j, none⟩) h.2.2.1).trans ((h.2.2.2.cell (p := ⟨bb, off + j, none⟩) h.2.2.1).symm.trans (h.2.1 j hj)), h.2.2.1, hB⟩
set_option maxRecDepth 100000 in
theorem rtake_0 (sp : Option Addr) (cap : Nat) (R : Int) (w : World) :
    Calls Tryd.prog 14 #[.slice sp 0 cap, .int .u8 R] w fun e w' => e = .returned (.tuple #[.int .i64 0, ov 0 0 0 0 0 0 false 0, .int .i64 0, .int .i64 80]) ∧ Below w.heap.size w w' := by
  go_enter Tryd.func14, Tryd.ntmps14
  go_wp2_with fail
  exact bodyPost_ret (v := .tuple #[.int .i64 0, ov 0 0 0 0 0 0 false 0, .int .i64 0, .int .i64 80]) (by simp [results, Tryd.results14, go_sem, *]) rfl ⟨rfl, by go_grown⟩
set_option maxRecDepth 100000 in
set_option maxHeartbeats 4000000 in
theorem rtake_reg (n cap bb off : Nat) (z : Nat → Nat) (R lo q x0 x2 : Int) (w : World) (hn : 0 < n) (hc : n ≤ cap) (hb : bb < w.heap.size) (hz : ∀ j, j < n → w.cell? ⟨bb, off + j, none⟩ = some (.int .u8 (z j : Nat))) (hz0 : z 0 < 256) (e2 : ((z 0 : Nat) : Int) / 64 = 3) (e3 : bits .and .u8 (z 0 : Nat) 7 = lo) (e4 : bits .and .u8 (((z 0 : Nat) : Int) / 8) 7 = q) (e5 : bits .and .u8 R 1 = x0) (e6 : bits .and .u8 (R / 4) 1 = x2) (b0 : 0 ≤ lo) (b1 : lo ≤ 7) (b2 : 0 ≤ q) (b3 : q ≤ 7) (b4 : 0 ≤ x0) (b5 : x0 ≤ 1) (b6 : 0 ≤ x2) (b7 : x2 ≤ 1) :
    Calls Tryd.prog 14 #[.slice (some ⟨bb, off, none⟩) n cap, .int .u8 R] w fun e w' => e = .returned (.tuple #[.int .i64 (q + x2 * 8), ov 1 (lo + x0 * 8) (-1) (-1) 0 0 false 0, .int .i64 1, .int .i64 0]) ∧ Below w.heap.size w w' := by
  have HS := Lib.hid (RT.start w n bb off z hb hz)
  clear hz
  go_enter Tryd.func14, Tryd.ntmps14
  go_upto_region 1 with fail
  generalize World.alloc _ _ = W0 at *
  go_wp2_with fail
  refine wp_region_noPanic ?_
  refine wp_region_held_drew (S := fun W => RT w n bb off z 0 0 0 0 0 0 false 0 W) (by kernel_rfl) ?_ (fun hHeld => ?_)
  · exact HS.out.drew
  generalize World.drew _ = v0 at hHeld ⊢
  refine wpAnyH_take (i := 0) (v := ?_) rfl (by kernel_rfl) (by kernel_rfl) (by kernel_rfl) (fun _ _ _ h => h) (Or.inl ⟨by kernel_rfl, ?_⟩) (by assumption) ?_
  rotate_left
  · intro w hSw
    go_simp
    try with_reducible rfl
  simp only [Act.put, List.setIfInBounds_toArray, List.set_cons_zero, List.set_cons_succ, List.getElem_toArray, List.getElem_cons_succ, List.getElem_cons_zero]
  refine wpAnyH_take (i := 1) (v := ?_) rfl (by kernel_rfl) (by kernel_rfl) (by kernel_rfl) (fun _ _ _ h => h) (Or.inl ⟨by kernel_rfl, ?_⟩) (by assumption) ?_
  rotate_left
  · intro w hSw
    go_simp
    try with_reducible rfl
  simp only [Act.put, List.setIfInBounds_toArray, List.set_cons_zero, List.set_cons_succ, List.getElem_toArray, List.getElem_cons_succ, List.getElem_cons_zero]
  refine wpAnyH_take (i := 2) (v := ?_) rfl (by kernel_rfl) (by kernel_rfl) (by kernel_rfl) (fun _ _ _ h => h) (Or.inl ⟨by kernel_rfl, ?_⟩) (by assumption) ?_
  rotate_left
  · intro w hSw
    have cc := hSw.c0 hn
    go_simp
    try with_reducible rfl
  simp only [Act.put, List.setIfInBounds_toArray, List.set_cons_zero, List.set_cons_succ, List.getElem_toArray, List.getElem_cons_succ, List.getElem_cons_zero]
  refine wpAnyH_take (i := 3) (v := ?_) rfl (by kernel_rfl) (by kernel_rfl) (by kernel_rfl) (fun _ _ _ h => h) (Or.inl ⟨by kernel_rfl, ?_⟩) (by assumption) ?_
  rotate_left
  · intro w hSw
    go_simp
    try with_reducible rfl
  simp only [Act.put, List.setIfInBounds_toArray, List.set_cons_zero, List.set_cons_succ, List.getElem_toArray, List.getElem_cons_succ, List.getElem_cons_zero]
  refine wpAnyH_take (i := 4) (v := ?_) rfl (by kernel_rfl) (by kernel_rfl) (by kernel_rfl) (fun _ _ _ h => h) (Or.inl ⟨by kernel_rfl, ?_⟩) (by assumption) ?_
  rotate_left
  · intro w hSw
    go_simp
    try with_reducible rfl
  simp only [Act.put, List.setIfInBounds_toArray, List.set_cons_zero, List.set_cons_succ, List.getElem_toArray, List.getElem_cons_succ, List.getElem_cons_zero]
  refine wpAnyH_take (i := 5) (v := ?_) rfl (by kernel_rfl) (by kernel_rfl) (by kernel_rfl) (fun _ _ _ h => h) (Or.inl ⟨by kernel_rfl, ?_⟩) (by assumption) ?_
  rotate_left
  · intro w hSw
    go_simp
    try with_reducible rfl
  simp only [Act.put, List.setIfInBounds_toArray, List.set_cons_zero, List.set_cons_succ, List.getElem_toArray, List.getElem_cons_succ, List.getElem_cons_zero]
  refine wpAnyH_take (i := 6) (v := ?_) rfl (by kernel_rfl) (by kernel_rfl) (by kernel_rfl) (fun _ _ _ h => h) (Or.inl ⟨by kernel_rfl, ?_⟩) (by assumption) ?_
  rotate_left
  · intro w hSw
    have cc := hSw.c0 hn
    go_simp
    try with_reducible rfl
  simp only [Act.put, List.setIfInBounds_toArray, List.set_cons_zero, List.set_cons_succ, List.getElem_toArray, List.getElem_cons_succ, List.getElem_cons_zero]
  refine wpAnyH_take (i := 7) (v := ?_) rfl (by kernel_rfl) (by kernel_rfl) (by kernel_rfl) (fun _ _ _ h => h) (Or.inl ⟨by kernel_rfl, ?_⟩) (by assumption) ?_
  rotate_left
  · intro w hSw
    go_simp
    try with_reducible rfl
  simp only [Act.put, List.setIfInBounds_toArray, List.set_cons_zero, List.set_cons_succ, List.getElem_toArray, List.getElem_cons_succ, List.getElem_cons_zero]
  refine wpAnyH_take (i := 8) (v := ?_) rfl (by kernel_rfl) (by kernel_rfl) (by kernel_rfl) (fun _ _ _ h => h) (Or.inl ⟨by kernel_rfl, ?_⟩) (by assumption) ?_
  rotate_left
  · intro w hSw
    go_simp
    try with_reducible rfl
  simp only [Act.put, List.setIfInBounds_toArray, List.set_cons_zero, List.set_cons_succ, List.getElem_toArray, List.getElem_cons_succ, List.getElem_cons_zero]
  refine wpAnyH_take (i := 9) (v := ?_) rfl (by kernel_rfl) (by kernel_rfl) (by kernel_rfl) (fun _ _ _ h => h) (Or.inl ⟨by kernel_rfl, ?_⟩) (by assumption) ?_
  rotate_left
  · intro w hSw
    go_simp
    try with_reducible rfl
  simp only [Act.put, List.setIfInBounds_toArray, List.set_cons_zero, List.set_cons_succ, List.getElem_toArray, List.getElem_cons_succ, List.getElem_cons_zero]
  refine wpAnyH_take (i := 10) (v := ?_) rfl (by kernel_rfl) (by kernel_rfl) (by kernel_rfl) (fun _ _ _ h => h) (Or.inl ⟨by kernel_rfl, ?_⟩) (by assumption) ?_
  rotate_left
  · intro w hSw
    go_simp
    try with_reducible rfl
  simp only [Act.put, List.setIfInBounds_toArray, List.set_cons_zero, List.set_cons_succ, List.getElem_toArray, List.getElem_cons_succ, List.getElem_cons_zero]
  refine wpAnyH_done (by kernel_rfl) ?_ _
  refine NoPanic.normal ?_
  have HS1 := Lib.hid hHeld
  clear HS hHeld
  have cc := HS1.out.c0 hn
  have wl : IntKind.i64.wrap lo = lo := IntWalk.i64_in _ (by omega)
  go_wp2_with (go_at_call 24; refine (rreg_any _ _).mono ?_; rintro e w3 ⟨rfl, hb3⟩; have HS3 := Lib.hid (HS1.out.below hb3); clear hb3 cc; obtain ⟨c0, c1, c2, c3, c4, c5, c6, c7⟩ := HS3.out.1.c; obtain ⟨f0, f1, f2, f3, f4, f5, f6, f7⟩ := HS3.out.1.f)
  have HF := Lib.hid (HS3.out.put 1 (lo + x0 * 8) (-1) (-1) 0 0 false 0)
  unfold put8 at HF
  clear HS3 HS1 c0 c1 c2 c3 c4 c5 c6 c7 f0 f1 f2 f3 f4 f5 f6 f7
  generalize World.setCell (World.setCell (World.setCell (World.setCell (World.setCell (World.setCell (World.setCell (World.setCell _ _ _) _ _) _ _) _ _) _ _) _ _) _ _) _ _ = W4 at *
  obtain ⟨c0, c1, c2, c3, c4, c5, c6, c7⟩ := HF.out.1.c
  exact bodyPost_ret (v := .tuple #[.int .i64 (q + x2 * 8), ov 1 (lo + x0 * 8) (-1) (-1) 0 0 false 0, .int .i64 1, .int .i64 0]) (by simp [results, Tryd.results14, go_sem, *]) rfl ⟨rfl, HF.out.2.2.2⟩
end Go.Proofs.YtkpnafgmjcnniaaDoor
