/- The document's own Take. -/
import Derived.Test.YtkpnafgmjcnniaaDoorRt1
namespace Go.Proofs.YtkpnafgmjcnniaaDoor
open Go.RowKit
set_option linter.unusedVariables false
set_option linter.unusedSimpArgs false
theorem RO.num {w : World} {n bb off : Nat} {z : Nat → Nat} {Q : Nat} {k r b i s d : Int} {p : Bool} {m : Int} {W : World} (h : RO w n bb off z Q k r b i s d p m W) (j : Nat) (hj : j < n) : W.cell? ⟨bb, off + j, none⟩ = some (.int .u8 (z j : Nat)) := by
  obtain ⟨a1, a2, a3, a4, a5, a6, a7, a8, h⟩ := h.1; exact h.2.1 j hj
theorem RT.far {w : World} {n bb off : Nat} {z : Nat → Nat} {k r b i s d : Int} {p : Bool} {m : Int} {W : World} (h : RT w n bb off z k r b i s d p m W) {Q : Nat} (hq : w.heap.size < Q) (j : Nat) (v : Value) : RT w n bb off z k r b i s d p m (W.setCell ⟨Q, j, none⟩ v) :=
  have hB := h.2.2.2.setCell (p := ⟨Q, j, none⟩) (Nat.le_of_lt hq) v
  ⟨h.1.far (by omega), fun j hj => (hB.cell (p := ⟨bb, off + j, none⟩) h.2.2.1).trans ((h.2.2.2.cell (p := ⟨bb, off + j, none⟩) h.2.2.1).symm.trans (h.2.1 j hj)), h.2.2.1, hB⟩
theorem RO.setD {w : World} {n bb off : Nat} {z : Nat → Nat} {Q : Nat} {k r b i s d : Int} {p : Bool} {m : Int} {W : World} (h : RO w n bb off z Q k r b i s d p m W) (d' : Int) : RO w n bb off z Q k r b i s d' p m (W.setCell ⟨Q, 5, none⟩ (.int .i64 d')) := by
  obtain ⟨⟨a1, a2, a3, a4, a5, a6, a7, a8, g⟩, h2, h3⟩ := h
  exact ⟨⟨_, _, _, _, _, _, _, _, g.far h3 _ _⟩, (cset (i := 5) (v := .int .i64 d') h2).trans (by simp [ob]), h3⟩
set_option maxRecDepth 100000 in
set_option maxHeartbeats 8000000 in
theorem rtake_b1n (n cap bb off : Nat) (z : Nat → Nat) (R lo q x0 x2 : Int) (w : World) (hn : 0 < n) (hc : n ≤ cap) (hb : bb < w.heap.size) (hz : ∀ j, j < n → w.cell? ⟨bb, off + j, none⟩ = some (.int .u8 (z j : Nat))) (hz0 : z 0 < 256) (e2 : ((z 0 : Nat) : Int) / 64 = 1) (e3 : bits .and .u8 (z 0 : Nat) 7 = lo) (e4 : bits .and .u8 (((z 0 : Nat) : Int) / 8) 7 = q) (e5 : bits .and .u8 R 1 = x0) (e6 : bits .and .u8 (R / 4) 1 = x2) (b0 : 0 ≤ lo) (b1 : lo ≤ 7) (b2 : 0 ≤ q) (b3 : q ≤ 7) (b4 : 0 ≤ x0) (b5 : x0 ≤ 1) (b6 : 0 ≤ x2) (b7 : x2 ≤ 1) (l4 : lo ≠ 4) (hx : n < 2) :
    Calls Tryd.prog 14 #[.slice (some ⟨bb, off, none⟩) n cap, .int .u8 R] w fun e w' => e = .returned (.tuple #[.int .i64 0, ov 0 0 0 0 0 0 false 0, .int .i64 0, .int .i64 80]) ∧ Below w.heap.size w w' := by
  have HS := Lib.hid (RT.start w n bb off z hb hz)
  clear hz
  go_enter Tryd.func14, Tryd.ntmps14
  go_upto_region 1 with fail
  generalize World.alloc _ _ = W0 at *
  go_wp2_with fail
  refine wp_region_noPanic ?_
  refine wp_region_held_drew (S := fun W => RT w n bb off z 0 0 0 0 0 0 false 0 W) (by kernel_rfl) ?_ (fun hHeld => ?_)
  · exact HS.out.drew
  generalize World.drew _ = v0 at hHeld ⊢
  refine wpAnyH_take (i := 0) (v := ?_) rfl (by kernel_rfl) (by kernel_rfl) (by kernel_rfl) (fun _ _ _ h => h) (Or.inl ⟨by kernel_rfl, ?_⟩) (by assumption) ?_
  rotate_left
  · intro w hSw
    go_simp
    try with_reducible rfl
  simp only [Act.put, List.setIfInBounds_toArray, List.set_cons_zero, List.set_cons_succ, List.getElem_toArray, List.getElem_cons_succ, List.getElem_cons_zero]
  refine wpAnyH_take (i := 1) (v := ?_) rfl (by kernel_rfl) (by kernel_rfl) (by kernel_rfl) (fun _ _ _ h => h) (Or.inl ⟨by kernel_rfl, ?_⟩) (by assumption) ?_
  rotate_left
  · intro w hSw
    go_simp
    try with_reducible rfl
  simp only [Act.put, List.setIfInBounds_toArray, List.set_cons_zero, List.set_cons_succ, List.getElem_toArray, List.getElem_cons_succ, List.getElem_cons_zero]
  refine wpAnyH_take (i := 2) (v := ?_) rfl (by kernel_rfl) (by kernel_rfl) (by kernel_rfl) (fun _ _ _ h => h) (Or.inl ⟨by kernel_rfl, ?_⟩) (by assumption) ?_
  rotate_left
  · intro w hSw
    have cc := hSw.c0 hn
    go_simp
    try with_reducible rfl
  simp only [Act.put, List.setIfInBounds_toArray, List.set_cons_zero, List.set_cons_succ, List.getElem_toArray, List.getElem_cons_succ, List.getElem_cons_zero]
  refine wpAnyH_take (i := 3) (v := ?_) rfl (by kernel_rfl) (by kernel_rfl) (by kernel_rfl) (fun _ _ _ h => h) (Or.inl ⟨by kernel_rfl, ?_⟩) (by assumption) ?_
  rotate_left
  · intro w hSw
    go_simp
    try with_reducible rfl
  simp only [Act.put, List.setIfInBounds_toArray, List.set_cons_zero, List.set_cons_succ, List.getElem_toArray, List.getElem_cons_succ, List.getElem_cons_zero]
  refine wpAnyH_take (i := 4) (v := ?_) rfl (by kernel_rfl) (by kernel_rfl) (by kernel_rfl) (fun _ _ _ h => h) (Or.inl ⟨by kernel_rfl, ?_⟩) (by assumption) ?_
  rotate_left
  · intro w hSw
    go_simp
    try with_reducible rfl
  simp only [Act.put, List.setIfInBounds_toArray, List.set_cons_zero, List.set_cons_succ, List.getElem_toArray, List.getElem_cons_succ, List.getElem_cons_zero]
  refine wpAnyH_take (i := 5) (v := ?_) rfl (by kernel_rfl) (by kernel_rfl) (by kernel_rfl) (fun _ _ _ h => h) (Or.inl ⟨by kernel_rfl, ?_⟩) (by assumption) ?_
  rotate_left
  · intro w hSw
    go_simp
    try with_reducible rfl
  simp only [Act.put, List.setIfInBounds_toArray, List.set_cons_zero, List.set_cons_succ, List.getElem_toArray, List.getElem_cons_succ, List.getElem_cons_zero]
  refine wpAnyH_take (i := 6) (v := ?_) rfl (by kernel_rfl) (by kernel_rfl) (by kernel_rfl) (fun _ _ _ h => h) (Or.inl ⟨by kernel_rfl, ?_⟩) (by assumption) ?_
  rotate_left
  · intro w hSw
    have cc := hSw.c0 hn
    go_simp
    try with_reducible rfl
  simp only [Act.put, List.setIfInBounds_toArray, List.set_cons_zero, List.set_cons_succ, List.getElem_toArray, List.getElem_cons_succ, List.getElem_cons_zero]
  refine wpAnyH_take (i := 7) (v := ?_) rfl (by kernel_rfl) (by kernel_rfl) (by kernel_rfl) (fun _ _ _ h => h) (Or.inl ⟨by kernel_rfl, ?_⟩) (by assumption) ?_
  rotate_left
  · intro w hSw
    go_simp
    try with_reducible rfl
  simp only [Act.put, List.setIfInBounds_toArray, List.set_cons_zero, List.set_cons_succ, List.getElem_toArray, List.getElem_cons_succ, List.getElem_cons_zero]
  refine wpAnyH_take (i := 8) (v := ?_) rfl (by kernel_rfl) (by kernel_rfl) (by kernel_rfl) (fun _ _ _ h => h) (Or.inl ⟨by kernel_rfl, ?_⟩) (by assumption) ?_
  rotate_left
  · intro w hSw
    go_simp
    try with_reducible rfl
  simp only [Act.put, List.setIfInBounds_toArray, List.set_cons_zero, List.set_cons_succ, List.getElem_toArray, List.getElem_cons_succ, List.getElem_cons_zero]
  refine wpAnyH_take (i := 9) (v := ?_) rfl (by kernel_rfl) (by kernel_rfl) (by kernel_rfl) (fun _ _ _ h => h) (Or.inl ⟨by kernel_rfl, ?_⟩) (by assumption) ?_
  rotate_left
  · intro w hSw
    go_simp
    try with_reducible rfl
  simp only [Act.put, List.setIfInBounds_toArray, List.set_cons_zero, List.set_cons_succ, List.getElem_toArray, List.getElem_cons_succ, List.getElem_cons_zero]
  refine wpAnyH_take (i := 10) (v := ?_) rfl (by kernel_rfl) (by kernel_rfl) (by kernel_rfl) (fun _ _ _ h => h) (Or.inl ⟨by kernel_rfl, ?_⟩) (by assumption) ?_
  rotate_left
  · intro w hSw
    go_simp
    try with_reducible rfl
  simp only [Act.put, List.setIfInBounds_toArray, List.set_cons_zero, List.set_cons_succ, List.getElem_toArray, List.getElem_cons_succ, List.getElem_cons_zero]
  refine wpAnyH_done (by kernel_rfl) ?_ _
  refine NoPanic.normal ?_
  have HS1 := Lib.hid hHeld
  clear HS hHeld
  have cc := HS1.out.c0 hn
  have wl : IntKind.i64.wrap lo = lo := IntWalk.i64_in _ (by omega)
  have L4 : (lo == 4) = false := by simpa using l4
  have mx : mxI (lo + x0 * 8) = lo + x0 * 8 := by unfold mxI; omega
  clear l4
  go_upto_region 8 with (go_at_call 26; refine (rmem_any _ _ _).mono ?_; rintro e w3 ⟨rfl, hb3⟩; have HS3 := Lib.hid (HS1.out.below hb3); clear hb3 cc)
  have HO := Lib.hid (RO.mk HS3.out 2 0 (lo + x0 * 8) (-1) 1 0 false 0)
  clear HS3 HS1
  generalize World.alloc w3 _ = V3 at *
  generalize w3.heap.size = b3 at *
  obtain ⟨_, _, _, _, _, _, _, _, h8⟩ := HO.out.fro
  obtain ⟨e0, e1, e2', e3', e4', e5', e6', e7'⟩ := h8.c
  obtain ⟨g0, g1, g2, g3, g4, g5, g6, g7⟩ := h8.f
  clear h8
  go_wp2_with (go_at_call 45; refine (rnum_few _ _ _ _ _ (by omega)).mono ?_; rintro e w5 ⟨rfl, rfl⟩)
  all_goals
    have HF := Lib.hid (HO.out.put 0 0 0 0 0 0 false 0).2
    unfold put8 at HF
    clear HO e0 e1 e2' e3' e4' e5' e6' e7' g0 g1 g2 g3 g4 g5 g6 g7
    generalize World.setCell (World.setCell (World.setCell (World.setCell (World.setCell (World.setCell (World.setCell (World.setCell _ _ _) _ _) _ _) _ _) _ _) _ _) _ _) _ _ = W4 at *
    obtain ⟨c0, c1, c2, c3, c4, c5, c6, c7⟩ := HF.out.1.c
    exact bodyPost_ret (v := .tuple #[.int .i64 0, ov 0 0 0 0 0 0 false 0, .int .i64 0, .int .i64 80]) (by simp [results, Tryd.results14, go_sem, *]; try rfl) rfl ⟨rfl, HF.out.2.2.2⟩
end Go.Proofs.YtkpnafgmjcnniaaDoor
