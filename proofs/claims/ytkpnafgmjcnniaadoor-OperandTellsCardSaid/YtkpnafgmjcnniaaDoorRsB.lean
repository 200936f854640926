/- The document's own Take. The document's own Take. The document's own Take. The document's own Take. -/
import Derived.Test.YtkpnafgmjcnniaaDoorRs0
namespace Go.Proofs.YtkpnafgmjcnniaaDoor
open Go.RowKit
set_option linter.unusedVariables false
set_option linter.unusedSimpArgs false
set_option maxRecDepth 100000 in
set_option maxHeartbeats 8000000 in
theorem rs_15io (n cap bb off : Nat) (z : Nat → Nat) (R q x0 x2 : Int) (w : World) (hn : 0 < n) (hc : n ≤ cap) (hb : bb < w.heap.size) (hz : ∀ j, j < n → w.cell? ⟨bb, off + j, none⟩ = some (.int .u8 (z j : Nat))) (hz0 : z 0 < 256) (e2 : ((z 0 : Nat) : Int) / 64 = 1) (e3 : bits .and .u8 (z 0 : Nat) 7 = 4) (e4 : bits .and .u8 (((z 0 : Nat) : Int) / 8) 7 = q) (e5 : bits .and .u8 R 1 = x0) (e6 : bits .and .u8 (R / 4) 1 = x2) (b2 : 0 ≤ q) (b3 : q ≤ 7) (b4 : 0 ≤ x0) (b5 : x0 ≤ 1) (b6 : 0 ≤ x2) (b7 : x2 ≤ 1) (S ix x1 : Int) (e7 : bits .and .u8 (z 1 : Nat) 7 = 5) (e8 : bits .and .u8 (((z 1 : Nat) : Int) / 8) 7 = ix) (e9 : bits .and .u8 (R / 2) 1 = x1) (eS : wrap64 (2 ^ (z 1 / 64)) = S) (hz1 : z 1 < 256) (b10 : 0 ≤ ix) (b11 : ix ≤ 7) (b12 : 0 ≤ x1) (b13 : x1 ≤ 1) (I4 : (ix + x1 * 8 != 4) = true) (hx : 3 ≤ n) (D : Int) (hN : ∀ W, (∀ j, j < n → W.cell? ⟨bb, off + j, none⟩ = some (.int .u8 (z j : Nat))) → Calls Tryd.prog 45 #[.slice (some ⟨bb, off + 2, none⟩) (n - 2) (cap - 2), .int .i64 1] W fun e w' => e = .returned (.tuple #[.int .i64 D, .bool true]) ∧ W = w') :
    Calls Tryd.prog 14 #[.slice (some ⟨bb, off, none⟩) n cap, .int .u8 R] w fun e w' => e = .returned (.tuple #[.int .i64 (q + x2 * 8), ov 2 0 (5 + x0 * 8) (ix + x1 * 8) S D false 0, .int .i64 3, .int .i64 0]) ∧ Below w.heap.size w w' := by
  have HN := Lib.hid hN
  clear hN
  have HS := Lib.hid (RT.start w n bb off z hb hz)
  clear hz
  go_enter Tryd.func14, Tryd.ntmps14
  go_upto_region 1 with fail
  generalize World.alloc _ _ = W0 at *
  go_wp2_with fail
  refine wp_region_noPanic ?_
  refine wp_region_held_drew (S := fun W => RT w n bb off z 0 0 0 0 0 0 false 0 W) (by kernel_rfl) ?_ (fun hHeld => ?_)
  · exact HS.out.drew
  generalize World.drew _ = v0 at hHeld ⊢
  refine wpAnyH_take (i := 0) (v := ?_) rfl (by kernel_rfl) (by kernel_rfl) (by kernel_rfl) (fun _ _ _ h => h) (Or.inl ⟨by kernel_rfl, ?_⟩) (by assumption) ?_
  rotate_left
  · intro w hSw
    go_simp
    try with_reducible rfl
  simp only [Act.put, List.setIfInBounds_toArray, List.set_cons_zero, List.set_cons_succ, List.getElem_toArray, List.getElem_cons_succ, List.getElem_cons_zero]
  refine wpAnyH_take (i := 1) (v := ?_) rfl (by kernel_rfl) (by kernel_rfl) (by kernel_rfl) (fun _ _ _ h => h) (Or.inl ⟨by kernel_rfl, ?_⟩) (by assumption) ?_
  rotate_left
  · intro w hSw
    go_simp
    try with_reducible rfl
  simp only [Act.put, List.setIfInBounds_toArray, List.set_cons_zero, List.set_cons_succ, List.getElem_toArray, List.getElem_cons_succ, List.getElem_cons_zero]
  refine wpAnyH_take (i := 2) (v := ?_) rfl (by kernel_rfl) (by kernel_rfl) (by kernel_rfl) (fun _ _ _ h => h) (Or.inl ⟨by kernel_rfl, ?_⟩) (by assumption) ?_
  rotate_left
  · intro w hSw
    have cc := hSw.c0 hn
    go_simp
    try with_reducible rfl
  simp only [Act.put, List.setIfInBounds_toArray, List.set_cons_zero, List.set_cons_succ, List.getElem_toArray, List.getElem_cons_succ, List.getElem_cons_zero]
  refine wpAnyH_take (i := 3) (v := ?_) rfl (by kernel_rfl) (by kernel_rfl) (by kernel_rfl) (fun _ _ _ h => h) (Or.inl ⟨by kernel_rfl, ?_⟩) (by assumption) ?_
  rotate_left
  · intro w hSw
    go_simp
    try with_reducible rfl
  simp only [Act.put, List.setIfInBounds_toArray, List.set_cons_zero, List.set_cons_succ, List.getElem_toArray, List.getElem_cons_succ, List.getElem_cons_zero]
  refine wpAnyH_take (i := 4) (v := ?_) rfl (by kernel_rfl) (by kernel_rfl) (by kernel_rfl) (fun _ _ _ h => h) (Or.inl ⟨by kernel_rfl, ?_⟩) (by assumption) ?_
  rotate_left
  · intro w hSw
    go_simp
    try with_reducible rfl
  simp only [Act.put, List.setIfInBounds_toArray, List.set_cons_zero, List.set_cons_succ, List.getElem_toArray, List.getElem_cons_succ, List.getElem_cons_zero]
  refine wpAnyH_take (i := 5) (v := ?_) rfl (by kernel_rfl) (by kernel_rfl) (by kernel_rfl) (fun _ _ _ h => h) (Or.inl ⟨by kernel_rfl, ?_⟩) (by assumption) ?_
  rotate_left
  · intro w hSw
    go_simp
    try with_reducible rfl
  simp only [Act.put, List.setIfInBounds_toArray, List.set_cons_zero, List.set_cons_succ, List.getElem_toArray, List.getElem_cons_succ, List.getElem_cons_zero]
  refine wpAnyH_take (i := 6) (v := ?_) rfl (by kernel_rfl) (by kernel_rfl) (by kernel_rfl) (fun _ _ _ h => h) (Or.inl ⟨by kernel_rfl, ?_⟩) (by assumption) ?_
  rotate_left
  · intro w hSw
    have cc := hSw.c0 hn
    go_simp
    try with_reducible rfl
  simp only [Act.put, List.setIfInBounds_toArray, List.set_cons_zero, List.set_cons_succ, List.getElem_toArray, List.getElem_cons_succ, List.getElem_cons_zero]
  refine wpAnyH_take (i := 7) (v := ?_) rfl (by kernel_rfl) (by kernel_rfl) (by kernel_rfl) (fun _ _ _ h => h) (Or.inl ⟨by kernel_rfl, ?_⟩) (by assumption) ?_
  rotate_left
  · intro w hSw
    go_simp
    try with_reducible rfl
  simp only [Act.put, List.setIfInBounds_toArray, List.set_cons_zero, List.set_cons_succ, List.getElem_toArray, List.getElem_cons_succ, List.getElem_cons_zero]
  refine wpAnyH_take (i := 8) (v := ?_) rfl (by kernel_rfl) (by kernel_rfl) (by kernel_rfl) (fun _ _ _ h => h) (Or.inl ⟨by kernel_rfl, ?_⟩) (by assumption) ?_
  rotate_left
  · intro w hSw
    go_simp
    try with_reducible rfl
  simp only [Act.put, List.setIfInBounds_toArray, List.set_cons_zero, List.set_cons_succ, List.getElem_toArray, List.getElem_cons_succ, List.getElem_cons_zero]
  refine wpAnyH_take (i := 9) (v := ?_) rfl (by kernel_rfl) (by kernel_rfl) (by kernel_rfl) (fun _ _ _ h => h) (Or.inl ⟨by kernel_rfl, ?_⟩) (by assumption) ?_
  rotate_left
  · intro w hSw
    go_simp
    try with_reducible rfl
  simp only [Act.put, List.setIfInBounds_toArray, List.set_cons_zero, List.set_cons_succ, List.getElem_toArray, List.getElem_cons_succ, List.getElem_cons_zero]
  refine wpAnyH_take (i := 10) (v := ?_) rfl (by kernel_rfl) (by kernel_rfl) (by kernel_rfl) (fun _ _ _ h => h) (Or.inl ⟨by kernel_rfl, ?_⟩) (by assumption) ?_
  rotate_left
  · intro w hSw
    go_simp
    try with_reducible rfl
  simp only [Act.put, List.setIfInBounds_toArray, List.set_cons_zero, List.set_cons_succ, List.getElem_toArray, List.getElem_cons_succ, List.getElem_cons_zero]
  refine wpAnyH_done (by kernel_rfl) ?_ _
  refine NoPanic.normal ?_
  have HS1 := Lib.hid hHeld
  clear HS hHeld
  have cc := HS1.out.c0 hn
  have wl : IntKind.i64.wrap 4 = 4 := by decide +kernel
  have mx : mxI (4 + x0 * 8) = 4 + x0 * 8 := by unfold mxI; omega
  go_upto_region 8 with (go_at_call 26; refine (rmem_any _ _ _).mono ?_; rintro e w3 ⟨rfl, hb3⟩; have HS3 := Lib.hid (HS1.out.below hb3); clear hb3 cc)
  have HO := Lib.hid (RO.mk HS3.out 2 0 (4 + x0 * 8) (-1) 1 0 false 0)
  clear HS3 HS1
  generalize World.alloc w3 _ = V3 at *
  generalize w3.heap.size = b3 at *
  obtain ⟨c0, c1, c2, c3, c4, c5, c6, c7⟩ := HO.out.2.1.c
  obtain ⟨f0, f1, f2, f3, f4, f5, f6, f7⟩ := HO.out.2.1.f
  have cc1 := HO.out.c1 (by omega)
  go_upto_region 18 with fail
  have HO3 := Lib.hid (HO.out.setB (5 + x0 * 8))
  clear HO c0 c1 c2 c3 c4 c5 c6 c7 f0 f1 f2 f3 f4 f5 f6 f7
  try clear cc1
  generalize World.setCell V3 _ _ = V4 at *
  have HO := Lib.hid HO3.out
  clear HO3
  obtain ⟨c0, c1, c2, c3, c4, c5, c6, c7⟩ := HO.out.2.1.c
  obtain ⟨f0, f1, f2, f3, f4, f5, f6, f7⟩ := HO.out.2.1.f
  have cc1 := HO.out.c1 (by omega)
  go_upto_region 21 with fail
  have HO3 := Lib.hid (HO.out.setI (ix + x1 * 8))
  clear HO c0 c1 c2 c3 c4 c5 c6 c7 f0 f1 f2 f3 f4 f5 f6 f7
  try clear cc1
  generalize World.setCell V4 _ _ = V5 at *
  have HO := Lib.hid HO3.out
  clear HO3
  obtain ⟨c0, c1, c2, c3, c4, c5, c6, c7⟩ := HO.out.2.1.c
  obtain ⟨f0, f1, f2, f3, f4, f5, f6, f7⟩ := HO.out.2.1.f
  have cc1 := HO.out.c1 (by omega)
  go_upto_region 22 with fail
  have HO3 := Lib.hid (HO.out.setS S)
  clear HO c0 c1 c2 c3 c4 c5 c6 c7 f0 f1 f2 f3 f4 f5 f6 f7
  try clear cc1
  generalize World.setCell V5 _ _ = V6 at *
  have HO := Lib.hid HO3.out
  clear HO3
  obtain ⟨c0, c1, c2, c3, c4, c5, c6, c7⟩ := HO.out.2.1.c
  obtain ⟨f0, f1, f2, f3, f4, f5, f6, f7⟩ := HO.out.2.1.f
  have cc1 := HO.out.c1 (by omega)
  go_upto_region 34 with (first | (exfalso; omega) | (go_at_call 45; refine (HN.out _ (fun j hj => HO.out.num j hj)).mono ?_; rintro e w5 ⟨rfl, rfl⟩))
  have HO3 := Lib.hid (HO.out.setD D)
  clear HO c0 c1 c2 c3 c4 c5 c6 c7 f0 f1 f2 f3 f4 f5 f6 f7 HN
  try clear cc1
  generalize World.setCell V6 _ _ = V9 at *
  have HO := Lib.hid HO3.out
  clear HO3 e2 e3 e4 e5 e6 e7 e8 e9 eS hn hc hz0 hx
  refine wp_region_noPanic ?_
  refine wp_region_held_drew (S := fun W => RO w n bb off z b3 2 0 (5 + x0 * 8) (ix + x1 * 8) S D false 0 W) (by kernel_rfl) ?_ (fun hHeld => ?_)
  · exact HO.out.drew
  generalize World.drew _ = v0 at hHeld ⊢
  refine wpAnyH_take (i := 0) (v := ?_) rfl (by kernel_rfl) (by kernel_rfl) (by kernel_rfl) (fun _ _ _ h => h) (Or.inl ⟨by kernel_rfl, ?_⟩) (by assumption) ?_
  rotate_left
  · intro w hSw
    go_simp
    try with_reducible rfl
  simp only [Act.put, List.setIfInBounds_toArray, List.set_cons_zero, List.set_cons_succ, List.getElem_toArray, List.getElem_cons_succ, List.getElem_cons_zero]
  refine wpAnyH_take (i := 1) (v := ?_) rfl (by kernel_rfl) (by kernel_rfl) (by kernel_rfl) (fun _ _ _ h => h) (Or.inl ⟨by kernel_rfl, ?_⟩) (by assumption) ?_
  rotate_left
  · intro w hSw
    obtain ⟨c0, c1, c2, c3, c4, c5, c6, c7⟩ := hSw.2.1.c
    go_simp
    try with_reducible rfl
  simp only [Act.put, List.setIfInBounds_toArray, List.set_cons_zero, List.set_cons_succ, List.getElem_toArray, List.getElem_cons_succ, List.getElem_cons_zero]
  refine wpAnyH_take (i := 2) (v := ?_) rfl (by kernel_rfl) (by kernel_rfl) (by kernel_rfl) (fun _ _ _ h => h) (Or.inl ⟨by kernel_rfl, ?_⟩) (by assumption) ?_
  rotate_left
  · intro w hSw
    go_simp
    try with_reducible rfl
  simp only [Act.put, List.setIfInBounds_toArray, List.set_cons_zero, List.set_cons_succ, List.getElem_toArray, List.getElem_cons_succ, List.getElem_cons_zero]
  refine wpAnyH_take (i := 3) (v := ?_) rfl (by kernel_rfl) (by kernel_rfl) (by kernel_rfl) (fun _ _ _ h => h) (Or.inl ⟨by kernel_rfl, ?_⟩) (by assumption) ?_
  rotate_left
  · intro w hSw
    go_simp
    try with_reducible rfl
  simp only [Act.put, List.setIfInBounds_toArray, List.set_cons_zero, List.set_cons_succ, List.getElem_toArray, List.getElem_cons_succ, List.getElem_cons_zero]
  refine wpAnyH_take (i := 4) (v := ?_) rfl (by kernel_rfl) (by kernel_rfl) (by kernel_rfl) (fun _ _ _ h => h) (Or.inl ⟨by kernel_rfl, ?_⟩) (by assumption) ?_
  rotate_left
  · intro w hSw
    go_simp
    try with_reducible rfl
  simp only [Act.put, List.setIfInBounds_toArray, List.set_cons_zero, List.set_cons_succ, List.getElem_toArray, List.getElem_cons_succ, List.getElem_cons_zero]
  refine wpAnyH_take (i := 5) (v := ?_) rfl (by kernel_rfl) (by kernel_rfl) (by kernel_rfl) (fun _ _ _ h => h) (Or.inl ⟨by kernel_rfl, ?_⟩) (by assumption) ?_
  rotate_left
  · intro w hSw
    go_simp
    try with_reducible rfl
  simp only [Act.put, List.setIfInBounds_toArray, List.set_cons_zero, List.set_cons_succ, List.getElem_toArray, List.getElem_cons_succ, List.getElem_cons_zero]
  refine wpAnyH_ready (rs := [6]) (by kernel_rfl) (by simp) ?_
  refine AllReadyH.cons rfl (fun K hK => ?_) AllReadyH.nil
  obtain ⟨_, _, _, _, _, _, _, _, h8⟩ := hHeld.fro
  obtain ⟨c0, c1, c2, c3, c4, c5, c6, c7⟩ := h8.c
  obtain ⟨f0, f1, f2, f3, f4, f5, f6, f7⟩ := h8.f
  have h9 := Lib.hid (hHeld.put 2 0 (5 + x0 * 8) (ix + x1 * 8) S D false 0)
  clear h8
  go_simp
  refine hK.out _ _ h9.out.1 (fun hHeld2 => ?_)
  have HZ := Lib.hid h9.out.2
  clear hK K hHeld c0 c1 c2 c3 c4 c5 c6 c7 f0 f1 f2 f3 f4 f5 f6 f7 h9
  have hHeld := hHeld2
  clear hHeld2
  try simp only [Act.put, List.setIfInBounds_toArray, List.set_cons_zero, List.set_cons_succ, List.getElem_toArray, List.getElem_cons_succ, List.getElem_cons_zero]
  refine wpAnyH_take (i := 7) (v := ?_) rfl (by kernel_rfl) (by kernel_rfl) (by kernel_rfl) (fun _ _ _ h => h) (Or.inl ⟨by kernel_rfl, ?_⟩) (by assumption) ?_
  rotate_left
  · intro w hSw
    go_simp
    try with_reducible rfl
  simp only [Act.put, List.setIfInBounds_toArray, List.set_cons_zero, List.set_cons_succ, List.getElem_toArray, List.getElem_cons_succ, List.getElem_cons_zero]
  refine wpAnyH_take (i := 8) (v := ?_) rfl (by kernel_rfl) (by kernel_rfl) (by kernel_rfl) (fun _ _ _ h => h) (Or.inl ⟨by kernel_rfl, ?_⟩) (by assumption) ?_
  rotate_left
  · intro w hSw
    go_simp
    try with_reducible rfl
  simp only [Act.put, List.setIfInBounds_toArray, List.set_cons_zero, List.set_cons_succ, List.getElem_toArray, List.getElem_cons_succ, List.getElem_cons_zero]
  refine wpAnyH_done (by kernel_rfl) ?_ _
  refine NoPanic.normal ?_
  try unfold put8 at hHeld HZ
  clear hHeld
  generalize World.setCell (World.setCell (World.setCell (World.setCell (World.setCell (World.setCell (World.setCell (World.setCell _ _ _) _ _) _ _) _ _) _ _) _ _) _ _) _ _ = W9 at *
  obtain ⟨c0, c1, c2, c3, c4, c5, c6, c7⟩ := HZ.out.1.c
  go_wp2_with fail
  exact bodyPost_ret (v := .tuple #[.int .i64 (q + x2 * 8), ov 2 0 (5 + x0 * 8) (ix + x1 * 8) S D false 0, .int .i64 3, .int .i64 0]) (by simp [results, Tryd.results14, go_sem, *]; try rfl) rfl ⟨rfl, HZ.out.2.2.2⟩
set_option maxRecDepth 100000 in
set_option maxHeartbeats 8000000 in
theorem rs_15xo (n cap bb off : Nat) (z : Nat → Nat) (R q x0 x2 : Int) (w : World) (hn : 0 < n) (hc : n ≤ cap) (hb : bb < w.heap.size) (hz : ∀ j, j < n → w.cell? ⟨bb, off + j, none⟩ = some (.int .u8 (z j : Nat))) (hz0 : z 0 < 256) (e2 : ((z 0 : Nat) : Int) / 64 = 1) (e3 : bits .and .u8 (z 0 : Nat) 7 = 4) (e4 : bits .and .u8 (((z 0 : Nat) : Int) / 8) 7 = q) (e5 : bits .and .u8 R 1 = x0) (e6 : bits .and .u8 (R / 4) 1 = x2) (b2 : 0 ≤ q) (b3 : q ≤ 7) (b4 : 0 ≤ x0) (b5 : x0 ≤ 1) (b6 : 0 ≤ x2) (b7 : x2 ≤ 1) (S ix x1 : Int) (e7 : bits .and .u8 (z 1 : Nat) 7 = 5) (e8 : bits .and .u8 (((z 1 : Nat) : Int) / 8) 7 = ix) (e9 : bits .and .u8 (R / 2) 1 = x1) (eS : wrap64 (2 ^ (z 1 / 64)) = S) (hz1 : z 1 < 256) (b10 : 0 ≤ ix) (b11 : ix ≤ 7) (b12 : 0 ≤ x1) (b13 : x1 ≤ 1) (I4 : (ix + x1 * 8 != 4) = false) (hx : 3 ≤ n) (D : Int) (hN : ∀ W, (∀ j, j < n → W.cell? ⟨bb, off + j, none⟩ = some (.int .u8 (z j : Nat))) → Calls Tryd.prog 45 #[.slice (some ⟨bb, off + 2, none⟩) (n - 2) (cap - 2), .int .i64 1] W fun e w' => e = .returned (.tuple #[.int .i64 D, .bool true]) ∧ W = w') :
    Calls Tryd.prog 14 #[.slice (some ⟨bb, off, none⟩) n cap, .int .u8 R] w fun e w' => e = .returned (.tuple #[.int .i64 (q + x2 * 8), ov 2 0 (5 + x0 * 8) (-1) 1 D false 0, .int .i64 3, .int .i64 0]) ∧ Below w.heap.size w w' := by
  have HN := Lib.hid hN
  clear hN
  have HS := Lib.hid (RT.start w n bb off z hb hz)
  clear hz
  go_enter Tryd.func14, Tryd.ntmps14
  go_upto_region 1 with fail
  generalize World.alloc _ _ = W0 at *
  go_wp2_with fail
  refine wp_region_noPanic ?_
  refine wp_region_held_drew (S := fun W => RT w n bb off z 0 0 0 0 0 0 false 0 W) (by kernel_rfl) ?_ (fun hHeld => ?_)
  · exact HS.out.drew
  generalize World.drew _ = v0 at hHeld ⊢
  refine wpAnyH_take (i := 0) (v := ?_) rfl (by kernel_rfl) (by kernel_rfl) (by kernel_rfl) (fun _ _ _ h => h) (Or.inl ⟨by kernel_rfl, ?_⟩) (by assumption) ?_
  rotate_left
  · intro w hSw
    go_simp
    try with_reducible rfl
  simp only [Act.put, List.setIfInBounds_toArray, List.set_cons_zero, List.set_cons_succ, List.getElem_toArray, List.getElem_cons_succ, List.getElem_cons_zero]
  refine wpAnyH_take (i := 1) (v := ?_) rfl (by kernel_rfl) (by kernel_rfl) (by kernel_rfl) (fun _ _ _ h => h) (Or.inl ⟨by kernel_rfl, ?_⟩) (by assumption) ?_
  rotate_left
  · intro w hSw
    go_simp
    try with_reducible rfl
  simp only [Act.put, List.setIfInBounds_toArray, List.set_cons_zero, List.set_cons_succ, List.getElem_toArray, List.getElem_cons_succ, List.getElem_cons_zero]
  refine wpAnyH_take (i := 2) (v := ?_) rfl (by kernel_rfl) (by kernel_rfl) (by kernel_rfl) (fun _ _ _ h => h) (Or.inl ⟨by kernel_rfl, ?_⟩) (by assumption) ?_
  rotate_left
  · intro w hSw
    have cc := hSw.c0 hn
    go_simp
    try with_reducible rfl
  simp only [Act.put, List.setIfInBounds_toArray, List.set_cons_zero, List.set_cons_succ, List.getElem_toArray, List.getElem_cons_succ, List.getElem_cons_zero]
  refine wpAnyH_take (i := 3) (v := ?_) rfl (by kernel_rfl) (by kernel_rfl) (by kernel_rfl) (fun _ _ _ h => h) (Or.inl ⟨by kernel_rfl, ?_⟩) (by assumption) ?_
  rotate_left
  · intro w hSw
    go_simp
    try with_reducible rfl
  simp only [Act.put, List.setIfInBounds_toArray, List.set_cons_zero, List.set_cons_succ, List.getElem_toArray, List.getElem_cons_succ, List.getElem_cons_zero]
  refine wpAnyH_take (i := 4) (v := ?_) rfl (by kernel_rfl) (by kernel_rfl) (by kernel_rfl) (fun _ _ _ h => h) (Or.inl ⟨by kernel_rfl, ?_⟩) (by assumption) ?_
  rotate_left
  · intro w hSw
    go_simp
    try with_reducible rfl
  simp only [Act.put, List.setIfInBounds_toArray, List.set_cons_zero, List.set_cons_succ, List.getElem_toArray, List.getElem_cons_succ, List.getElem_cons_zero]
  refine wpAnyH_take (i := 5) (v := ?_) rfl (by kernel_rfl) (by kernel_rfl) (by kernel_rfl) (fun _ _ _ h => h) (Or.inl ⟨by kernel_rfl, ?_⟩) (by assumption) ?_
  rotate_left
  · intro w hSw
    go_simp
    try with_reducible rfl
  simp only [Act.put, List.setIfInBounds_toArray, List.set_cons_zero, List.set_cons_succ, List.getElem_toArray, List.getElem_cons_succ, List.getElem_cons_zero]
  refine wpAnyH_take (i := 6) (v := ?_) rfl (by kernel_rfl) (by kernel_rfl) (by kernel_rfl) (fun _ _ _ h => h) (Or.inl ⟨by kernel_rfl, ?_⟩) (by assumption) ?_
  rotate_left
  · intro w hSw
    have cc := hSw.c0 hn
    go_simp
    try with_reducible rfl
  simp only [Act.put, List.setIfInBounds_toArray, List.set_cons_zero, List.set_cons_succ, List.getElem_toArray, List.getElem_cons_succ, List.getElem_cons_zero]
  refine wpAnyH_take (i := 7) (v := ?_) rfl (by kernel_rfl) (by kernel_rfl) (by kernel_rfl) (fun _ _ _ h => h) (Or.inl ⟨by kernel_rfl, ?_⟩) (by assumption) ?_
  rotate_left
  · intro w hSw
    go_simp
    try with_reducible rfl
  simp only [Act.put, List.setIfInBounds_toArray, List.set_cons_zero, List.set_cons_succ, List.getElem_toArray, List.getElem_cons_succ, List.getElem_cons_zero]
  refine wpAnyH_take (i := 8) (v := ?_) rfl (by kernel_rfl) (by kernel_rfl) (by kernel_rfl) (fun _ _ _ h => h) (Or.inl ⟨by kernel_rfl, ?_⟩) (by assumption) ?_
  rotate_left
  · intro w hSw
    go_simp
    try with_reducible rfl
  simp only [Act.put, List.setIfInBounds_toArray, List.set_cons_zero, List.set_cons_succ, List.getElem_toArray, List.getElem_cons_succ, List.getElem_cons_zero]
  refine wpAnyH_take (i := 9) (v := ?_) rfl (by kernel_rfl) (by kernel_rfl) (by kernel_rfl) (fun _ _ _ h => h) (Or.inl ⟨by kernel_rfl, ?_⟩) (by assumption) ?_
  rotate_left
  · intro w hSw
    go_simp
    try with_reducible rfl
  simp only [Act.put, List.setIfInBounds_toArray, List.set_cons_zero, List.set_cons_succ, List.getElem_toArray, List.getElem_cons_succ, List.getElem_cons_zero]
  refine wpAnyH_take (i := 10) (v := ?_) rfl (by kernel_rfl) (by kernel_rfl) (by kernel_rfl) (fun _ _ _ h => h) (Or.inl ⟨by kernel_rfl, ?_⟩) (by assumption) ?_
  rotate_left
  · intro w hSw
    go_simp
    try with_reducible rfl
  simp only [Act.put, List.setIfInBounds_toArray, List.set_cons_zero, List.set_cons_succ, List.getElem_toArray, List.getElem_cons_succ, List.getElem_cons_zero]
  refine wpAnyH_done (by kernel_rfl) ?_ _
  refine NoPanic.normal ?_
  have HS1 := Lib.hid hHeld
  clear HS hHeld
  have cc := HS1.out.c0 hn
  have wl : IntKind.i64.wrap 4 = 4 := by decide +kernel
  have mx : mxI (4 + x0 * 8) = 4 + x0 * 8 := by unfold mxI; omega
  go_upto_region 8 with (go_at_call 26; refine (rmem_any _ _ _).mono ?_; rintro e w3 ⟨rfl, hb3⟩; have HS3 := Lib.hid (HS1.out.below hb3); clear hb3 cc)
  have HO := Lib.hid (RO.mk HS3.out 2 0 (4 + x0 * 8) (-1) 1 0 false 0)
  clear HS3 HS1
  generalize World.alloc w3 _ = V3 at *
  generalize w3.heap.size = b3 at *
  obtain ⟨c0, c1, c2, c3, c4, c5, c6, c7⟩ := HO.out.2.1.c
  obtain ⟨f0, f1, f2, f3, f4, f5, f6, f7⟩ := HO.out.2.1.f
  have cc1 := HO.out.c1 (by omega)
  go_upto_region 18 with fail
  have HO3 := Lib.hid (HO.out.setB (5 + x0 * 8))
  clear HO c0 c1 c2 c3 c4 c5 c6 c7 f0 f1 f2 f3 f4 f5 f6 f7
  try clear cc1
  generalize World.setCell V3 _ _ = V4 at *
  have HO := Lib.hid HO3.out
  clear HO3
  obtain ⟨c0, c1, c2, c3, c4, c5, c6, c7⟩ := HO.out.2.1.c
  obtain ⟨f0, f1, f2, f3, f4, f5, f6, f7⟩ := HO.out.2.1.f
  have cc1 := HO.out.c1 (by omega)
  go_upto_region 34 with (first | (exfalso; omega) | (go_at_call 45; refine (HN.out _ (fun j hj => HO.out.num j hj)).mono ?_; rintro e w5 ⟨rfl, rfl⟩))
  have HO3 := Lib.hid (HO.out.setD D)
  clear HO c0 c1 c2 c3 c4 c5 c6 c7 f0 f1 f2 f3 f4 f5 f6 f7 HN
  try clear cc1
  generalize World.setCell V4 _ _ = V9 at *
  have HO := Lib.hid HO3.out
  clear HO3 e2 e3 e4 e5 e6 e7 e8 e9 eS hn hc hz0 hx
  refine wp_region_noPanic ?_
  refine wp_region_held_drew (S := fun W => RO w n bb off z b3 2 0 (5 + x0 * 8) (-1) 1 D false 0 W) (by kernel_rfl) ?_ (fun hHeld => ?_)
  · exact HO.out.drew
  generalize World.drew _ = v0 at hHeld ⊢
  refine wpAnyH_take (i := 0) (v := ?_) rfl (by kernel_rfl) (by kernel_rfl) (by kernel_rfl) (fun _ _ _ h => h) (Or.inl ⟨by kernel_rfl, ?_⟩) (by assumption) ?_
  rotate_left
  · intro w hSw
    go_simp
    try with_reducible rfl
  simp only [Act.put, List.setIfInBounds_toArray, List.set_cons_zero, List.set_cons_succ, List.getElem_toArray, List.getElem_cons_succ, List.getElem_cons_zero]
  refine wpAnyH_take (i := 1) (v := ?_) rfl (by kernel_rfl) (by kernel_rfl) (by kernel_rfl) (fun _ _ _ h => h) (Or.inl ⟨by kernel_rfl, ?_⟩) (by assumption) ?_
  rotate_left
  · intro w hSw
    obtain ⟨c0, c1, c2, c3, c4, c5, c6, c7⟩ := hSw.2.1.c
    go_simp
    try with_reducible rfl
  simp only [Act.put, List.setIfInBounds_toArray, List.set_cons_zero, List.set_cons_succ, List.getElem_toArray, List.getElem_cons_succ, List.getElem_cons_zero]
  refine wpAnyH_take (i := 2) (v := ?_) rfl (by kernel_rfl) (by kernel_rfl) (by kernel_rfl) (fun _ _ _ h => h) (Or.inl ⟨by kernel_rfl, ?_⟩) (by assumption) ?_
  rotate_left
  · intro w hSw
    go_simp
    try with_reducible rfl
  simp only [Act.put, List.setIfInBounds_toArray, List.set_cons_zero, List.set_cons_succ, List.getElem_toArray, List.getElem_cons_succ, List.getElem_cons_zero]
  refine wpAnyH_take (i := 3) (v := ?_) rfl (by kernel_rfl) (by kernel_rfl) (by kernel_rfl) (fun _ _ _ h => h) (Or.inl ⟨by kernel_rfl, ?_⟩) (by assumption) ?_
  rotate_left
  · intro w hSw
    go_simp
    try with_reducible rfl
  simp only [Act.put, List.setIfInBounds_toArray, List.set_cons_zero, List.set_cons_succ, List.getElem_toArray, List.getElem_cons_succ, List.getElem_cons_zero]
  refine wpAnyH_take (i := 4) (v := ?_) rfl (by kernel_rfl) (by kernel_rfl) (by kernel_rfl) (fun _ _ _ h => h) (Or.inl ⟨by kernel_rfl, ?_⟩) (by assumption) ?_
  rotate_left
  · intro w hSw
    go_simp
    try with_reducible rfl
  simp only [Act.put, List.setIfInBounds_toArray, List.set_cons_zero, List.set_cons_succ, List.getElem_toArray, List.getElem_cons_succ, List.getElem_cons_zero]
  refine wpAnyH_take (i := 5) (v := ?_) rfl (by kernel_rfl) (by kernel_rfl) (by kernel_rfl) (fun _ _ _ h => h) (Or.inl ⟨by kernel_rfl, ?_⟩) (by assumption) ?_
  rotate_left
  · intro w hSw
    go_simp
    try with_reducible rfl
  simp only [Act.put, List.setIfInBounds_toArray, List.set_cons_zero, List.set_cons_succ, List.getElem_toArray, List.getElem_cons_succ, List.getElem_cons_zero]
  refine wpAnyH_ready (rs := [6]) (by kernel_rfl) (by simp) ?_
  refine AllReadyH.cons rfl (fun K hK => ?_) AllReadyH.nil
  obtain ⟨_, _, _, _, _, _, _, _, h8⟩ := hHeld.fro
  obtain ⟨c0, c1, c2, c3, c4, c5, c6, c7⟩ := h8.c
  obtain ⟨f0, f1, f2, f3, f4, f5, f6, f7⟩ := h8.f
  have h9 := Lib.hid (hHeld.put 2 0 (5 + x0 * 8) (-1) 1 D false 0)
  clear h8
  go_simp
  refine hK.out _ _ h9.out.1 (fun hHeld2 => ?_)
  have HZ := Lib.hid h9.out.2
  clear hK K hHeld c0 c1 c2 c3 c4 c5 c6 c7 f0 f1 f2 f3 f4 f5 f6 f7 h9
  have hHeld := hHeld2
  clear hHeld2
  try simp only [Act.put, List.setIfInBounds_toArray, List.set_cons_zero, List.set_cons_succ, List.getElem_toArray, List.getElem_cons_succ, List.getElem_cons_zero]
  refine wpAnyH_take (i := 7) (v := ?_) rfl (by kernel_rfl) (by kernel_rfl) (by kernel_rfl) (fun _ _ _ h => h) (Or.inl ⟨by kernel_rfl, ?_⟩) (by assumption) ?_
  rotate_left
  · intro w hSw
    go_simp
    try with_reducible rfl
  simp only [Act.put, List.setIfInBounds_toArray, List.set_cons_zero, List.set_cons_succ, List.getElem_toArray, List.getElem_cons_succ, List.getElem_cons_zero]
  refine wpAnyH_take (i := 8) (v := ?_) rfl (by kernel_rfl) (by kernel_rfl) (by kernel_rfl) (fun _ _ _ h => h) (Or.inl ⟨by kernel_rfl, ?_⟩) (by assumption) ?_
  rotate_left
  · intro w hSw
    go_simp
    try with_reducible rfl
  simp only [Act.put, List.setIfInBounds_toArray, List.set_cons_zero, List.set_cons_succ, List.getElem_toArray, List.getElem_cons_succ, List.getElem_cons_zero]
  refine wpAnyH_done (by kernel_rfl) ?_ _
  refine NoPanic.normal ?_
  try unfold put8 at hHeld HZ
  clear hHeld
  generalize World.setCell (World.setCell (World.setCell (World.setCell (World.setCell (World.setCell (World.setCell (World.setCell _ _ _) _ _) _ _) _ _) _ _) _ _) _ _) _ _ = W9 at *
  obtain ⟨c0, c1, c2, c3, c4, c5, c6, c7⟩ := HZ.out.1.c
  go_wp2_with fail
  exact bodyPost_ret (v := .tuple #[.int .i64 (q + x2 * 8), ov 2 0 (5 + x0 * 8) (-1) 1 D false 0, .int .i64 3, .int .i64 0]) (by simp [results, Tryd.results14, go_sem, *]; try rfl) rfl ⟨rfl, HZ.out.2.2.2⟩
open Go.RowKit
set_option linter.unusedVariables false
set_option linter.unusedSimpArgs false
set_option maxRecDepth 100000 in
set_option maxHeartbeats 8000000 in
theorem rs_15if (n cap bb off : Nat) (z : Nat → Nat) (R q x0 x2 : Int) (w : World) (hn : 0 < n) (hc : n ≤ cap) (hb : bb < w.heap.size) (hz : ∀ j, j < n → w.cell? ⟨bb, off + j, none⟩ = some (.int .u8 (z j : Nat))) (hz0 : z 0 < 256) (e2 : ((z 0 : Nat) : Int) / 64 = 1) (e3 : bits .and .u8 (z 0 : Nat) 7 = 4) (e4 : bits .and .u8 (((z 0 : Nat) : Int) / 8) 7 = q) (e5 : bits .and .u8 R 1 = x0) (e6 : bits .and .u8 (R / 4) 1 = x2) (b2 : 0 ≤ q) (b3 : q ≤ 7) (b4 : 0 ≤ x0) (b5 : x0 ≤ 1) (b6 : 0 ≤ x2) (b7 : x2 ≤ 1) (S ix x1 : Int) (e7 : bits .and .u8 (z 1 : Nat) 7 = 5) (e8 : bits .and .u8 (((z 1 : Nat) : Int) / 8) 7 = ix) (e9 : bits .and .u8 (R / 2) 1 = x1) (eS : wrap64 (2 ^ (z 1 / 64)) = S) (hz1 : z 1 < 256) (b10 : 0 ≤ ix) (b11 : ix ≤ 7) (b12 : 0 ≤ x1) (b13 : x1 ≤ 1) (I4 : (ix + x1 * 8 != 4) = true) (hx : 2 ≤ n ∧ n < 3) :
    Calls Tryd.prog 14 #[.slice (some ⟨bb, off, none⟩) n cap, .int .u8 R] w fun e w' => e = .returned (.tuple #[.int .i64 0, ov 0 0 0 0 0 0 false 0, .int .i64 0, .int .i64 80]) ∧ Below w.heap.size w w' := by
  obtain ⟨hx, hy⟩ := hx
  have HS := Lib.hid (RT.start w n bb off z hb hz)
  clear hz
  go_enter Tryd.func14, Tryd.ntmps14
  go_upto_region 1 with fail
  generalize World.alloc _ _ = W0 at *
  go_wp2_with fail
  refine wp_region_noPanic ?_
  refine wp_region_held_drew (S := fun W => RT w n bb off z 0 0 0 0 0 0 false 0 W) (by kernel_rfl) ?_ (fun hHeld => ?_)
  · exact HS.out.drew
  generalize World.drew _ = v0 at hHeld ⊢
  refine wpAnyH_take (i := 0) (v := ?_) rfl (by kernel_rfl) (by kernel_rfl) (by kernel_rfl) (fun _ _ _ h => h) (Or.inl ⟨by kernel_rfl, ?_⟩) (by assumption) ?_
  rotate_left
  · intro w hSw
    go_simp
    try with_reducible rfl
  simp only [Act.put, List.setIfInBounds_toArray, List.set_cons_zero, List.set_cons_succ, List.getElem_toArray, List.getElem_cons_succ, List.getElem_cons_zero]
  refine wpAnyH_take (i := 1) (v := ?_) rfl (by kernel_rfl) (by kernel_rfl) (by kernel_rfl) (fun _ _ _ h => h) (Or.inl ⟨by kernel_rfl, ?_⟩) (by assumption) ?_
  rotate_left
  · intro w hSw
    go_simp
    try with_reducible rfl
  simp only [Act.put, List.setIfInBounds_toArray, List.set_cons_zero, List.set_cons_succ, List.getElem_toArray, List.getElem_cons_succ, List.getElem_cons_zero]
  refine wpAnyH_take (i := 2) (v := ?_) rfl (by kernel_rfl) (by kernel_rfl) (by kernel_rfl) (fun _ _ _ h => h) (Or.inl ⟨by kernel_rfl, ?_⟩) (by assumption) ?_
  rotate_left
  · intro w hSw
    have cc := hSw.c0 hn
    go_simp
    try with_reducible rfl
  simp only [Act.put, List.setIfInBounds_toArray, List.set_cons_zero, List.set_cons_succ, List.getElem_toArray, List.getElem_cons_succ, List.getElem_cons_zero]
  refine wpAnyH_take (i := 3) (v := ?_) rfl (by kernel_rfl) (by kernel_rfl) (by kernel_rfl) (fun _ _ _ h => h) (Or.inl ⟨by kernel_rfl, ?_⟩) (by assumption) ?_
  rotate_left
  · intro w hSw
    go_simp
    try with_reducible rfl
  simp only [Act.put, List.setIfInBounds_toArray, List.set_cons_zero, List.set_cons_succ, List.getElem_toArray, List.getElem_cons_succ, List.getElem_cons_zero]
  refine wpAnyH_take (i := 4) (v := ?_) rfl (by kernel_rfl) (by kernel_rfl) (by kernel_rfl) (fun _ _ _ h => h) (Or.inl ⟨by kernel_rfl, ?_⟩) (by assumption) ?_
  rotate_left
  · intro w hSw
    go_simp
    try with_reducible rfl
  simp only [Act.put, List.setIfInBounds_toArray, List.set_cons_zero, List.set_cons_succ, List.getElem_toArray, List.getElem_cons_succ, List.getElem_cons_zero]
  refine wpAnyH_take (i := 5) (v := ?_) rfl (by kernel_rfl) (by kernel_rfl) (by kernel_rfl) (fun _ _ _ h => h) (Or.inl ⟨by kernel_rfl, ?_⟩) (by assumption) ?_
  rotate_left
  · intro w hSw
    go_simp
    try with_reducible rfl
  simp only [Act.put, List.setIfInBounds_toArray, List.set_cons_zero, List.set_cons_succ, List.getElem_toArray, List.getElem_cons_succ, List.getElem_cons_zero]
  refine wpAnyH_take (i := 6) (v := ?_) rfl (by kernel_rfl) (by kernel_rfl) (by kernel_rfl) (fun _ _ _ h => h) (Or.inl ⟨by kernel_rfl, ?_⟩) (by assumption) ?_
  rotate_left
  · intro w hSw
    have cc := hSw.c0 hn
    go_simp
    try with_reducible rfl
  simp only [Act.put, List.setIfInBounds_toArray, List.set_cons_zero, List.set_cons_succ, List.getElem_toArray, List.getElem_cons_succ, List.getElem_cons_zero]
  refine wpAnyH_take (i := 7) (v := ?_) rfl (by kernel_rfl) (by kernel_rfl) (by kernel_rfl) (fun _ _ _ h => h) (Or.inl ⟨by kernel_rfl, ?_⟩) (by assumption) ?_
  rotate_left
  · intro w hSw
    go_simp
    try with_reducible rfl
  simp only [Act.put, List.setIfInBounds_toArray, List.set_cons_zero, List.set_cons_succ, List.getElem_toArray, List.getElem_cons_succ, List.getElem_cons_zero]
  refine wpAnyH_take (i := 8) (v := ?_) rfl (by kernel_rfl) (by kernel_rfl) (by kernel_rfl) (fun _ _ _ h => h) (Or.inl ⟨by kernel_rfl, ?_⟩) (by assumption) ?_
  rotate_left
  · intro w hSw
    go_simp
    try with_reducible rfl
  simp only [Act.put, List.setIfInBounds_toArray, List.set_cons_zero, List.set_cons_succ, List.getElem_toArray, List.getElem_cons_succ, List.getElem_cons_zero]
  refine wpAnyH_take (i := 9) (v := ?_) rfl (by kernel_rfl) (by kernel_rfl) (by kernel_rfl) (fun _ _ _ h => h) (Or.inl ⟨by kernel_rfl, ?_⟩) (by assumption) ?_
  rotate_left
  · intro w hSw
    go_simp
    try with_reducible rfl
  simp only [Act.put, List.setIfInBounds_toArray, List.set_cons_zero, List.set_cons_succ, List.getElem_toArray, List.getElem_cons_succ, List.getElem_cons_zero]
  refine wpAnyH_take (i := 10) (v := ?_) rfl (by kernel_rfl) (by kernel_rfl) (by kernel_rfl) (fun _ _ _ h => h) (Or.inl ⟨by kernel_rfl, ?_⟩) (by assumption) ?_
  rotate_left
  · intro w hSw
    go_simp
    try with_reducible rfl
  simp only [Act.put, List.setIfInBounds_toArray, List.set_cons_zero, List.set_cons_succ, List.getElem_toArray, List.getElem_cons_succ, List.getElem_cons_zero]
  refine wpAnyH_done (by kernel_rfl) ?_ _
  refine NoPanic.normal ?_
  have HS1 := Lib.hid hHeld
  clear HS hHeld
  have cc := HS1.out.c0 hn
  have wl : IntKind.i64.wrap 4 = 4 := by decide +kernel
  have mx : mxI (4 + x0 * 8) = 4 + x0 * 8 := by unfold mxI; omega
  go_upto_region 8 with (go_at_call 26; refine (rmem_any _ _ _).mono ?_; rintro e w3 ⟨rfl, hb3⟩; have HS3 := Lib.hid (HS1.out.below hb3); clear hb3 cc)
  have HO := Lib.hid (RO.mk HS3.out 2 0 (4 + x0 * 8) (-1) 1 0 false 0)
  clear HS3 HS1
  generalize World.alloc w3 _ = V3 at *
  generalize w3.heap.size = b3 at *
  obtain ⟨c0, c1, c2, c3, c4, c5, c6, c7⟩ := HO.out.2.1.c
  obtain ⟨f0, f1, f2, f3, f4, f5, f6, f7⟩ := HO.out.2.1.f
  have cc1 := HO.out.c1 (by omega)
  go_upto_region 18 with fail
  have HO3 := Lib.hid (HO.out.setB (5 + x0 * 8))
  clear HO c0 c1 c2 c3 c4 c5 c6 c7 f0 f1 f2 f3 f4 f5 f6 f7
  try clear cc1
  generalize World.setCell V3 _ _ = V4 at *
  have HO := Lib.hid HO3.out
  clear HO3
  obtain ⟨c0, c1, c2, c3, c4, c5, c6, c7⟩ := HO.out.2.1.c
  obtain ⟨f0, f1, f2, f3, f4, f5, f6, f7⟩ := HO.out.2.1.f
  have cc1 := HO.out.c1 (by omega)
  go_upto_region 21 with fail
  have HO3 := Lib.hid (HO.out.setI (ix + x1 * 8))
  clear HO c0 c1 c2 c3 c4 c5 c6 c7 f0 f1 f2 f3 f4 f5 f6 f7
  try clear cc1
  generalize World.setCell V4 _ _ = V5 at *
  have HO := Lib.hid HO3.out
  clear HO3
  obtain ⟨c0, c1, c2, c3, c4, c5, c6, c7⟩ := HO.out.2.1.c
  obtain ⟨f0, f1, f2, f3, f4, f5, f6, f7⟩ := HO.out.2.1.f
  have cc1 := HO.out.c1 (by omega)
  go_upto_region 22 with fail
  have HO3 := Lib.hid (HO.out.setS S)
  clear HO c0 c1 c2 c3 c4 c5 c6 c7 f0 f1 f2 f3 f4 f5 f6 f7
  try clear cc1
  generalize World.setCell V5 _ _ = V6 at *
  have HO := Lib.hid HO3.out
  clear HO3
  obtain ⟨c0, c1, c2, c3, c4, c5, c6, c7⟩ := HO.out.2.1.c
  obtain ⟨f0, f1, f2, f3, f4, f5, f6, f7⟩ := HO.out.2.1.f
  have cc1 := HO.out.c1 (by omega)
  obtain ⟨_, _, _, _, _, _, _, _, h8⟩ := HO.out.fro
  obtain ⟨e0, e1, e2', e3', e4', e5', e6', e7'⟩ := h8.c
  obtain ⟨g0, g1, g2, g3, g4, g5, g6, g7⟩ := h8.f
  clear h8
  go_wp2_with (go_at_call 45; refine (rnum_few _ _ _ _ _ (by omega)).mono ?_; rintro e w5 ⟨rfl, rfl⟩)
  all_goals
    have HF := Lib.hid (HO.out.put 0 0 0 0 0 0 false 0).2
    unfold put8 at HF
    clear HO e0 e1 e2' e3' e4' e5' e6' e7' g0 g1 g2 g3 g4 g5 g6 g7
    generalize World.setCell (World.setCell (World.setCell (World.setCell (World.setCell (World.setCell (World.setCell (World.setCell _ _ _) _ _) _ _) _ _) _ _) _ _) _ _) _ _ = W4 at *
    obtain ⟨c0, c1, c2, c3, c4, c5, c6, c7⟩ := HF.out.1.c
    exact bodyPost_ret (v := .tuple #[.int .i64 0, ov 0 0 0 0 0 0 false 0, .int .i64 0, .int .i64 80]) (by simp [results, Tryd.results14, go_sem, *]; try rfl) rfl ⟨rfl, HF.out.2.2.2⟩
set_option maxRecDepth 100000 in
set_option maxHeartbeats 8000000 in
theorem rs_15xf (n cap bb off : Nat) (z : Nat → Nat) (R q x0 x2 : Int) (w : World) (hn : 0 < n) (hc : n ≤ cap) (hb : bb < w.heap.size) (hz : ∀ j, j < n → w.cell? ⟨bb, off + j, none⟩ = some (.int .u8 (z j : Nat))) (hz0 : z 0 < 256) (e2 : ((z 0 : Nat) : Int) / 64 = 1) (e3 : bits .and .u8 (z 0 : Nat) 7 = 4) (e4 : bits .and .u8 (((z 0 : Nat) : Int) / 8) 7 = q) (e5 : bits .and .u8 R 1 = x0) (e6 : bits .and .u8 (R / 4) 1 = x2) (b2 : 0 ≤ q) (b3 : q ≤ 7) (b4 : 0 ≤ x0) (b5 : x0 ≤ 1) (b6 : 0 ≤ x2) (b7 : x2 ≤ 1) (S ix x1 : Int) (e7 : bits .and .u8 (z 1 : Nat) 7 = 5) (e8 : bits .and .u8 (((z 1 : Nat) : Int) / 8) 7 = ix) (e9 : bits .and .u8 (R / 2) 1 = x1) (eS : wrap64 (2 ^ (z 1 / 64)) = S) (hz1 : z 1 < 256) (b10 : 0 ≤ ix) (b11 : ix ≤ 7) (b12 : 0 ≤ x1) (b13 : x1 ≤ 1) (I4 : (ix + x1 * 8 != 4) = false) (hx : 2 ≤ n ∧ n < 3) :
    Calls Tryd.prog 14 #[.slice (some ⟨bb, off, none⟩) n cap, .int .u8 R] w fun e w' => e = .returned (.tuple #[.int .i64 0, ov 0 0 0 0 0 0 false 0, .int .i64 0, .int .i64 80]) ∧ Below w.heap.size w w' := by
  obtain ⟨hx, hy⟩ := hx
  have HS := Lib.hid (RT.start w n bb off z hb hz)
  clear hz
  go_enter Tryd.func14, Tryd.ntmps14
  go_upto_region 1 with fail
  generalize World.alloc _ _ = W0 at *
  go_wp2_with fail
  refine wp_region_noPanic ?_
  refine wp_region_held_drew (S := fun W => RT w n bb off z 0 0 0 0 0 0 false 0 W) (by kernel_rfl) ?_ (fun hHeld => ?_)
  · exact HS.out.drew
  generalize World.drew _ = v0 at hHeld ⊢
  refine wpAnyH_take (i := 0) (v := ?_) rfl (by kernel_rfl) (by kernel_rfl) (by kernel_rfl) (fun _ _ _ h => h) (Or.inl ⟨by kernel_rfl, ?_⟩) (by assumption) ?_
  rotate_left
  · intro w hSw
    go_simp
    try with_reducible rfl
  simp only [Act.put, List.setIfInBounds_toArray, List.set_cons_zero, List.set_cons_succ, List.getElem_toArray, List.getElem_cons_succ, List.getElem_cons_zero]
  refine wpAnyH_take (i := 1) (v := ?_) rfl (by kernel_rfl) (by kernel_rfl) (by kernel_rfl) (fun _ _ _ h => h) (Or.inl ⟨by kernel_rfl, ?_⟩) (by assumption) ?_
  rotate_left
  · intro w hSw
    go_simp
    try with_reducible rfl
  simp only [Act.put, List.setIfInBounds_toArray, List.set_cons_zero, List.set_cons_succ, List.getElem_toArray, List.getElem_cons_succ, List.getElem_cons_zero]
  refine wpAnyH_take (i := 2) (v := ?_) rfl (by kernel_rfl) (by kernel_rfl) (by kernel_rfl) (fun _ _ _ h => h) (Or.inl ⟨by kernel_rfl, ?_⟩) (by assumption) ?_
  rotate_left
  · intro w hSw
    have cc := hSw.c0 hn
    go_simp
    try with_reducible rfl
  simp only [Act.put, List.setIfInBounds_toArray, List.set_cons_zero, List.set_cons_succ, List.getElem_toArray, List.getElem_cons_succ, List.getElem_cons_zero]
  refine wpAnyH_take (i := 3) (v := ?_) rfl (by kernel_rfl) (by kernel_rfl) (by kernel_rfl) (fun _ _ _ h => h) (Or.inl ⟨by kernel_rfl, ?_⟩) (by assumption) ?_
  rotate_left
  · intro w hSw
    go_simp
    try with_reducible rfl
  simp only [Act.put, List.setIfInBounds_toArray, List.set_cons_zero, List.set_cons_succ, List.getElem_toArray, List.getElem_cons_succ, List.getElem_cons_zero]
  refine wpAnyH_take (i := 4) (v := ?_) rfl (by kernel_rfl) (by kernel_rfl) (by kernel_rfl) (fun _ _ _ h => h) (Or.inl ⟨by kernel_rfl, ?_⟩) (by assumption) ?_
  rotate_left
  · intro w hSw
    go_simp
    try with_reducible rfl
  simp only [Act.put, List.setIfInBounds_toArray, List.set_cons_zero, List.set_cons_succ, List.getElem_toArray, List.getElem_cons_succ, List.getElem_cons_zero]
  refine wpAnyH_take (i := 5) (v := ?_) rfl (by kernel_rfl) (by kernel_rfl) (by kernel_rfl) (fun _ _ _ h => h) (Or.inl ⟨by kernel_rfl, ?_⟩) (by assumption) ?_
  rotate_left
  · intro w hSw
    go_simp
    try with_reducible rfl
  simp only [Act.put, List.setIfInBounds_toArray, List.set_cons_zero, List.set_cons_succ, List.getElem_toArray, List.getElem_cons_succ, List.getElem_cons_zero]
  refine wpAnyH_take (i := 6) (v := ?_) rfl (by kernel_rfl) (by kernel_rfl) (by kernel_rfl) (fun _ _ _ h => h) (Or.inl ⟨by kernel_rfl, ?_⟩) (by assumption) ?_
  rotate_left
  · intro w hSw
    have cc := hSw.c0 hn
    go_simp
    try with_reducible rfl
  simp only [Act.put, List.setIfInBounds_toArray, List.set_cons_zero, List.set_cons_succ, List.getElem_toArray, List.getElem_cons_succ, List.getElem_cons_zero]
  refine wpAnyH_take (i := 7) (v := ?_) rfl (by kernel_rfl) (by kernel_rfl) (by kernel_rfl) (fun _ _ _ h => h) (Or.inl ⟨by kernel_rfl, ?_⟩) (by assumption) ?_
  rotate_left
  · intro w hSw
    go_simp
    try with_reducible rfl
  simp only [Act.put, List.setIfInBounds_toArray, List.set_cons_zero, List.set_cons_succ, List.getElem_toArray, List.getElem_cons_succ, List.getElem_cons_zero]
  refine wpAnyH_take (i := 8) (v := ?_) rfl (by kernel_rfl) (by kernel_rfl) (by kernel_rfl) (fun _ _ _ h => h) (Or.inl ⟨by kernel_rfl, ?_⟩) (by assumption) ?_
  rotate_left
  · intro w hSw
    go_simp
    try with_reducible rfl
  simp only [Act.put, List.setIfInBounds_toArray, List.set_cons_zero, List.set_cons_succ, List.getElem_toArray, List.getElem_cons_succ, List.getElem_cons_zero]
  refine wpAnyH_take (i := 9) (v := ?_) rfl (by kernel_rfl) (by kernel_rfl) (by kernel_rfl) (fun _ _ _ h => h) (Or.inl ⟨by kernel_rfl, ?_⟩) (by assumption) ?_
  rotate_left
  · intro w hSw
    go_simp
    try with_reducible rfl
  simp only [Act.put, List.setIfInBounds_toArray, List.set_cons_zero, List.set_cons_succ, List.getElem_toArray, List.getElem_cons_succ, List.getElem_cons_zero]
  refine wpAnyH_take (i := 10) (v := ?_) rfl (by kernel_rfl) (by kernel_rfl) (by kernel_rfl) (fun _ _ _ h => h) (Or.inl ⟨by kernel_rfl, ?_⟩) (by assumption) ?_
  rotate_left
  · intro w hSw
    go_simp
    try with_reducible rfl
  simp only [Act.put, List.setIfInBounds_toArray, List.set_cons_zero, List.set_cons_succ, List.getElem_toArray, List.getElem_cons_succ, List.getElem_cons_zero]
  refine wpAnyH_done (by kernel_rfl) ?_ _
  refine NoPanic.normal ?_
  have HS1 := Lib.hid hHeld
  clear HS hHeld
  have cc := HS1.out.c0 hn
  have wl : IntKind.i64.wrap 4 = 4 := by decide +kernel
  have mx : mxI (4 + x0 * 8) = 4 + x0 * 8 := by unfold mxI; omega
  go_upto_region 8 with (go_at_call 26; refine (rmem_any _ _ _).mono ?_; rintro e w3 ⟨rfl, hb3⟩; have HS3 := Lib.hid (HS1.out.below hb3); clear hb3 cc)
  have HO := Lib.hid (RO.mk HS3.out 2 0 (4 + x0 * 8) (-1) 1 0 false 0)
  clear HS3 HS1
  generalize World.alloc w3 _ = V3 at *
  generalize w3.heap.size = b3 at *
  obtain ⟨c0, c1, c2, c3, c4, c5, c6, c7⟩ := HO.out.2.1.c
  obtain ⟨f0, f1, f2, f3, f4, f5, f6, f7⟩ := HO.out.2.1.f
  have cc1 := HO.out.c1 (by omega)
  go_upto_region 18 with fail
  have HO3 := Lib.hid (HO.out.setB (5 + x0 * 8))
  clear HO c0 c1 c2 c3 c4 c5 c6 c7 f0 f1 f2 f3 f4 f5 f6 f7
  try clear cc1
  generalize World.setCell V3 _ _ = V4 at *
  have HO := Lib.hid HO3.out
  clear HO3
  obtain ⟨c0, c1, c2, c3, c4, c5, c6, c7⟩ := HO.out.2.1.c
  obtain ⟨f0, f1, f2, f3, f4, f5, f6, f7⟩ := HO.out.2.1.f
  have cc1 := HO.out.c1 (by omega)
  obtain ⟨_, _, _, _, _, _, _, _, h8⟩ := HO.out.fro
  obtain ⟨e0, e1, e2', e3', e4', e5', e6', e7'⟩ := h8.c
  obtain ⟨g0, g1, g2, g3, g4, g5, g6, g7⟩ := h8.f
  clear h8
  go_wp2_with (go_at_call 45; refine (rnum_few _ _ _ _ _ (by omega)).mono ?_; rintro e w5 ⟨rfl, rfl⟩)
  all_goals
    have HF := Lib.hid (HO.out.put 0 0 0 0 0 0 false 0).2
    unfold put8 at HF
    clear HO e0 e1 e2' e3' e4' e5' e6' e7' g0 g1 g2 g3 g4 g5 g6 g7
    generalize World.setCell (World.setCell (World.setCell (World.setCell (World.setCell (World.setCell (World.setCell (World.setCell _ _ _) _ _) _ _) _ _) _ _) _ _) _ _) _ _ = W4 at *
    obtain ⟨c0, c1, c2, c3, c4, c5, c6, c7⟩ := HF.out.1.c
    exact bodyPost_ret (v := .tuple #[.int .i64 0, ov 0 0 0 0 0 0 false 0, .int .i64 0, .int .i64 80]) (by simp [results, Tryd.results14, go_sem, *]; try rfl) rfl ⟨rfl, HF.out.2.2.2⟩
open Go.RowKit
set_option linter.unusedVariables false
set_option linter.unusedSimpArgs false
set_option maxRecDepth 100000 in
set_option maxHeartbeats 8000000 in
theorem rs_1nio (n cap bb off : Nat) (z : Nat → Nat) (R q x0 x2 : Int) (w : World) (hn : 0 < n) (hc : n ≤ cap) (hb : bb < w.heap.size) (hz : ∀ j, j < n → w.cell? ⟨bb, off + j, none⟩ = some (.int .u8 (z j : Nat))) (hz0 : z 0 < 256) (e2 : ((z 0 : Nat) : Int) / 64 = 1) (e3 : bits .and .u8 (z 0 : Nat) 7 = 4) (e4 : bits .and .u8 (((z 0 : Nat) : Int) / 8) 7 = q) (e5 : bits .and .u8 R 1 = x0) (e6 : bits .and .u8 (R / 4) 1 = x2) (b2 : 0 ≤ q) (b3 : q ≤ 7) (b4 : 0 ≤ x0) (b5 : x0 ≤ 1) (b6 : 0 ≤ x2) (b7 : x2 ≤ 1) (S ix x1 lo1 : Int) (e7 : bits .and .u8 (z 1 : Nat) 7 = lo1) (e8 : bits .and .u8 (((z 1 : Nat) : Int) / 8) 7 = ix) (e9 : bits .and .u8 (R / 2) 1 = x1) (eS : wrap64 (2 ^ (z 1 / 64)) = S) (hz1 : z 1 < 256) (b8 : 0 ≤ lo1) (b9 : lo1 ≤ 7) (L5 : (lo1 == 5) = false) (b10 : 0 ≤ ix) (b11 : ix ≤ 7) (b12 : 0 ≤ x1) (b13 : x1 ≤ 1) (I4 : (ix + x1 * 8 != 4) = true) (hx : 3 ≤ n) (D : Int) (hN : ∀ W, (∀ j, j < n → W.cell? ⟨bb, off + j, none⟩ = some (.int .u8 (z j : Nat))) → Calls Tryd.prog 45 #[.slice (some ⟨bb, off + 2, none⟩) (n - 2) (cap - 2), .int .i64 1] W fun e w' => e = .returned (.tuple #[.int .i64 D, .bool true]) ∧ W = w') :
    Calls Tryd.prog 14 #[.slice (some ⟨bb, off, none⟩) n cap, .int .u8 R] w fun e w' => e = .returned (.tuple #[.int .i64 (q + x2 * 8), ov 2 0 (lo1 + x0 * 8) (ix + x1 * 8) S D false 0, .int .i64 3, .int .i64 0]) ∧ Below w.heap.size w w' := by
  have HN := Lib.hid hN
  clear hN
  have HS := Lib.hid (RT.start w n bb off z hb hz)
  clear hz
  go_enter Tryd.func14, Tryd.ntmps14
  go_upto_region 1 with fail
  generalize World.alloc _ _ = W0 at *
  go_wp2_with fail
  refine wp_region_noPanic ?_
  refine wp_region_held_drew (S := fun W => RT w n bb off z 0 0 0 0 0 0 false 0 W) (by kernel_rfl) ?_ (fun hHeld => ?_)
  · exact HS.out.drew
  generalize World.drew _ = v0 at hHeld ⊢
  refine wpAnyH_take (i := 0) (v := ?_) rfl (by kernel_rfl) (by kernel_rfl) (by kernel_rfl) (fun _ _ _ h => h) (Or.inl ⟨by kernel_rfl, ?_⟩) (by assumption) ?_
  rotate_left
  · intro w hSw
    go_simp
    try with_reducible rfl
  simp only [Act.put, List.setIfInBounds_toArray, List.set_cons_zero, List.set_cons_succ, List.getElem_toArray, List.getElem_cons_succ, List.getElem_cons_zero]
  refine wpAnyH_take (i := 1) (v := ?_) rfl (by kernel_rfl) (by kernel_rfl) (by kernel_rfl) (fun _ _ _ h => h) (Or.inl ⟨by kernel_rfl, ?_⟩) (by assumption) ?_
  rotate_left
  · intro w hSw
    go_simp
    try with_reducible rfl
  simp only [Act.put, List.setIfInBounds_toArray, List.set_cons_zero, List.set_cons_succ, List.getElem_toArray, List.getElem_cons_succ, List.getElem_cons_zero]
  refine wpAnyH_take (i := 2) (v := ?_) rfl (by kernel_rfl) (by kernel_rfl) (by kernel_rfl) (fun _ _ _ h => h) (Or.inl ⟨by kernel_rfl, ?_⟩) (by assumption) ?_
  rotate_left
  · intro w hSw
    have cc := hSw.c0 hn
    go_simp
    try with_reducible rfl
  simp only [Act.put, List.setIfInBounds_toArray, List.set_cons_zero, List.set_cons_succ, List.getElem_toArray, List.getElem_cons_succ, List.getElem_cons_zero]
  refine wpAnyH_take (i := 3) (v := ?_) rfl (by kernel_rfl) (by kernel_rfl) (by kernel_rfl) (fun _ _ _ h => h) (Or.inl ⟨by kernel_rfl, ?_⟩) (by assumption) ?_
  rotate_left
  · intro w hSw
    go_simp
    try with_reducible rfl
  simp only [Act.put, List.setIfInBounds_toArray, List.set_cons_zero, List.set_cons_succ, List.getElem_toArray, List.getElem_cons_succ, List.getElem_cons_zero]
  refine wpAnyH_take (i := 4) (v := ?_) rfl (by kernel_rfl) (by kernel_rfl) (by kernel_rfl) (fun _ _ _ h => h) (Or.inl ⟨by kernel_rfl, ?_⟩) (by assumption) ?_
  rotate_left
  · intro w hSw
    go_simp
    try with_reducible rfl
  simp only [Act.put, List.setIfInBounds_toArray, List.set_cons_zero, List.set_cons_succ, List.getElem_toArray, List.getElem_cons_succ, List.getElem_cons_zero]
  refine wpAnyH_take (i := 5) (v := ?_) rfl (by kernel_rfl) (by kernel_rfl) (by kernel_rfl) (fun _ _ _ h => h) (Or.inl ⟨by kernel_rfl, ?_⟩) (by assumption) ?_
  rotate_left
  · intro w hSw
    go_simp
    try with_reducible rfl
  simp only [Act.put, List.setIfInBounds_toArray, List.set_cons_zero, List.set_cons_succ, List.getElem_toArray, List.getElem_cons_succ, List.getElem_cons_zero]
  refine wpAnyH_take (i := 6) (v := ?_) rfl (by kernel_rfl) (by kernel_rfl) (by kernel_rfl) (fun _ _ _ h => h) (Or.inl ⟨by kernel_rfl, ?_⟩) (by assumption) ?_
  rotate_left
  · intro w hSw
    have cc := hSw.c0 hn
    go_simp
    try with_reducible rfl
  simp only [Act.put, List.setIfInBounds_toArray, List.set_cons_zero, List.set_cons_succ, List.getElem_toArray, List.getElem_cons_succ, List.getElem_cons_zero]
  refine wpAnyH_take (i := 7) (v := ?_) rfl (by kernel_rfl) (by kernel_rfl) (by kernel_rfl) (fun _ _ _ h => h) (Or.inl ⟨by kernel_rfl, ?_⟩) (by assumption) ?_
  rotate_left
  · intro w hSw
    go_simp
    try with_reducible rfl
  simp only [Act.put, List.setIfInBounds_toArray, List.set_cons_zero, List.set_cons_succ, List.getElem_toArray, List.getElem_cons_succ, List.getElem_cons_zero]
  refine wpAnyH_take (i := 8) (v := ?_) rfl (by kernel_rfl) (by kernel_rfl) (by kernel_rfl) (fun _ _ _ h => h) (Or.inl ⟨by kernel_rfl, ?_⟩) (by assumption) ?_
  rotate_left
  · intro w hSw
    go_simp
    try with_reducible rfl
  simp only [Act.put, List.setIfInBounds_toArray, List.set_cons_zero, List.set_cons_succ, List.getElem_toArray, List.getElem_cons_succ, List.getElem_cons_zero]
  refine wpAnyH_take (i := 9) (v := ?_) rfl (by kernel_rfl) (by kernel_rfl) (by kernel_rfl) (fun _ _ _ h => h) (Or.inl ⟨by kernel_rfl, ?_⟩) (by assumption) ?_
  rotate_left
  · intro w hSw
    go_simp
    try with_reducible rfl
  simp only [Act.put, List.setIfInBounds_toArray, List.set_cons_zero, List.set_cons_succ, List.getElem_toArray, List.getElem_cons_succ, List.getElem_cons_zero]
  refine wpAnyH_take (i := 10) (v := ?_) rfl (by kernel_rfl) (by kernel_rfl) (by kernel_rfl) (fun _ _ _ h => h) (Or.inl ⟨by kernel_rfl, ?_⟩) (by assumption) ?_
  rotate_left
  · intro w hSw
    go_simp
    try with_reducible rfl
  simp only [Act.put, List.setIfInBounds_toArray, List.set_cons_zero, List.set_cons_succ, List.getElem_toArray, List.getElem_cons_succ, List.getElem_cons_zero]
  refine wpAnyH_done (by kernel_rfl) ?_ _
  refine NoPanic.normal ?_
  have HS1 := Lib.hid hHeld
  clear HS hHeld
  have cc := HS1.out.c0 hn
  have wl : IntKind.i64.wrap 4 = 4 := by decide +kernel
  have mx : mxI (4 + x0 * 8) = 4 + x0 * 8 := by unfold mxI; omega
  go_upto_region 8 with (go_at_call 26; refine (rmem_any _ _ _).mono ?_; rintro e w3 ⟨rfl, hb3⟩; have HS3 := Lib.hid (HS1.out.below hb3); clear hb3 cc)
  have HO := Lib.hid (RO.mk HS3.out 2 0 (4 + x0 * 8) (-1) 1 0 false 0)
  clear HS3 HS1
  generalize World.alloc w3 _ = V3 at *
  generalize w3.heap.size = b3 at *
  obtain ⟨c0, c1, c2, c3, c4, c5, c6, c7⟩ := HO.out.2.1.c
  obtain ⟨f0, f1, f2, f3, f4, f5, f6, f7⟩ := HO.out.2.1.f
  have cc1 := HO.out.c1 (by omega)
  go_upto_region 18 with fail
  have HO3 := Lib.hid (HO.out.setB (lo1 + x0 * 8))
  clear HO c0 c1 c2 c3 c4 c5 c6 c7 f0 f1 f2 f3 f4 f5 f6 f7
  try clear cc1
  generalize World.setCell V3 _ _ = V4 at *
  have HO := Lib.hid HO3.out
  clear HO3
  obtain ⟨c0, c1, c2, c3, c4, c5, c6, c7⟩ := HO.out.2.1.c
  obtain ⟨f0, f1, f2, f3, f4, f5, f6, f7⟩ := HO.out.2.1.f
  have cc1 := HO.out.c1 (by omega)
  go_upto_region 21 with fail
  have HO3 := Lib.hid (HO.out.setI (ix + x1 * 8))
  clear HO c0 c1 c2 c3 c4 c5 c6 c7 f0 f1 f2 f3 f4 f5 f6 f7
  try clear cc1
  generalize World.setCell V4 _ _ = V5 at *
  have HO := Lib.hid HO3.out
  clear HO3
  obtain ⟨c0, c1, c2, c3, c4, c5, c6, c7⟩ := HO.out.2.1.c
  obtain ⟨f0, f1, f2, f3, f4, f5, f6, f7⟩ := HO.out.2.1.f
  have cc1 := HO.out.c1 (by omega)
  go_upto_region 22 with fail
  have HO3 := Lib.hid (HO.out.setS S)
  clear HO c0 c1 c2 c3 c4 c5 c6 c7 f0 f1 f2 f3 f4 f5 f6 f7
  try clear cc1
  generalize World.setCell V5 _ _ = V6 at *
  have HO := Lib.hid HO3.out
  clear HO3
  obtain ⟨c0, c1, c2, c3, c4, c5, c6, c7⟩ := HO.out.2.1.c
  obtain ⟨f0, f1, f2, f3, f4, f5, f6, f7⟩ := HO.out.2.1.f
  have cc1 := HO.out.c1 (by omega)
  go_upto_region 34 with (first | (exfalso; omega) | (go_at_call 45; refine (HN.out _ (fun j hj => HO.out.num j hj)).mono ?_; rintro e w5 ⟨rfl, rfl⟩))
  have HO3 := Lib.hid (HO.out.setD D)
  clear HO c0 c1 c2 c3 c4 c5 c6 c7 f0 f1 f2 f3 f4 f5 f6 f7 HN
  try clear cc1
  generalize World.setCell V6 _ _ = V9 at *
  have HO := Lib.hid HO3.out
  clear HO3 e2 e3 e4 e5 e6 e7 e8 e9 eS hn hc hz0 hx
  refine wp_region_noPanic ?_
  refine wp_region_held_drew (S := fun W => RO w n bb off z b3 2 0 (lo1 + x0 * 8) (ix + x1 * 8) S D false 0 W) (by kernel_rfl) ?_ (fun hHeld => ?_)
  · exact HO.out.drew
  generalize World.drew _ = v0 at hHeld ⊢
  refine wpAnyH_take (i := 0) (v := ?_) rfl (by kernel_rfl) (by kernel_rfl) (by kernel_rfl) (fun _ _ _ h => h) (Or.inl ⟨by kernel_rfl, ?_⟩) (by assumption) ?_
  rotate_left
  · intro w hSw
    go_simp
    try with_reducible rfl
  simp only [Act.put, List.setIfInBounds_toArray, List.set_cons_zero, List.set_cons_succ, List.getElem_toArray, List.getElem_cons_succ, List.getElem_cons_zero]
  refine wpAnyH_take (i := 1) (v := ?_) rfl (by kernel_rfl) (by kernel_rfl) (by kernel_rfl) (fun _ _ _ h => h) (Or.inl ⟨by kernel_rfl, ?_⟩) (by assumption) ?_
  rotate_left
  · intro w hSw
    obtain ⟨c0, c1, c2, c3, c4, c5, c6, c7⟩ := hSw.2.1.c
    go_simp
    try with_reducible rfl
  simp only [Act.put, List.setIfInBounds_toArray, List.set_cons_zero, List.set_cons_succ, List.getElem_toArray, List.getElem_cons_succ, List.getElem_cons_zero]
  refine wpAnyH_take (i := 2) (v := ?_) rfl (by kernel_rfl) (by kernel_rfl) (by kernel_rfl) (fun _ _ _ h => h) (Or.inl ⟨by kernel_rfl, ?_⟩) (by assumption) ?_
  rotate_left
  · intro w hSw
    go_simp
    try with_reducible rfl
  simp only [Act.put, List.setIfInBounds_toArray, List.set_cons_zero, List.set_cons_succ, List.getElem_toArray, List.getElem_cons_succ, List.getElem_cons_zero]
  refine wpAnyH_take (i := 3) (v := ?_) rfl (by kernel_rfl) (by kernel_rfl) (by kernel_rfl) (fun _ _ _ h => h) (Or.inl ⟨by kernel_rfl, ?_⟩) (by assumption) ?_
  rotate_left
  · intro w hSw
    go_simp
    try with_reducible rfl
  simp only [Act.put, List.setIfInBounds_toArray, List.set_cons_zero, List.set_cons_succ, List.getElem_toArray, List.getElem_cons_succ, List.getElem_cons_zero]
  refine wpAnyH_take (i := 4) (v := ?_) rfl (by kernel_rfl) (by kernel_rfl) (by kernel_rfl) (fun _ _ _ h => h) (Or.inl ⟨by kernel_rfl, ?_⟩) (by assumption) ?_
  rotate_left
  · intro w hSw
    go_simp
    try with_reducible rfl
  simp only [Act.put, List.setIfInBounds_toArray, List.set_cons_zero, List.set_cons_succ, List.getElem_toArray, List.getElem_cons_succ, List.getElem_cons_zero]
  refine wpAnyH_take (i := 5) (v := ?_) rfl (by kernel_rfl) (by kernel_rfl) (by kernel_rfl) (fun _ _ _ h => h) (Or.inl ⟨by kernel_rfl, ?_⟩) (by assumption) ?_
  rotate_left
  · intro w hSw
    go_simp
    try with_reducible rfl
  simp only [Act.put, List.setIfInBounds_toArray, List.set_cons_zero, List.set_cons_succ, List.getElem_toArray, List.getElem_cons_succ, List.getElem_cons_zero]
  refine wpAnyH_ready (rs := [6]) (by kernel_rfl) (by simp) ?_
  refine AllReadyH.cons rfl (fun K hK => ?_) AllReadyH.nil
  obtain ⟨_, _, _, _, _, _, _, _, h8⟩ := hHeld.fro
  obtain ⟨c0, c1, c2, c3, c4, c5, c6, c7⟩ := h8.c
  obtain ⟨f0, f1, f2, f3, f4, f5, f6, f7⟩ := h8.f
  have h9 := Lib.hid (hHeld.put 2 0 (lo1 + x0 * 8) (ix + x1 * 8) S D false 0)
  clear h8
  go_simp
  refine hK.out _ _ h9.out.1 (fun hHeld2 => ?_)
  have HZ := Lib.hid h9.out.2
  clear hK K hHeld c0 c1 c2 c3 c4 c5 c6 c7 f0 f1 f2 f3 f4 f5 f6 f7 h9
  have hHeld := hHeld2
  clear hHeld2
  try simp only [Act.put, List.setIfInBounds_toArray, List.set_cons_zero, List.set_cons_succ, List.getElem_toArray, List.getElem_cons_succ, List.getElem_cons_zero]
  refine wpAnyH_take (i := 7) (v := ?_) rfl (by kernel_rfl) (by kernel_rfl) (by kernel_rfl) (fun _ _ _ h => h) (Or.inl ⟨by kernel_rfl, ?_⟩) (by assumption) ?_
  rotate_left
  · intro w hSw
    go_simp
    try with_reducible rfl
  simp only [Act.put, List.setIfInBounds_toArray, List.set_cons_zero, List.set_cons_succ, List.getElem_toArray, List.getElem_cons_succ, List.getElem_cons_zero]
  refine wpAnyH_take (i := 8) (v := ?_) rfl (by kernel_rfl) (by kernel_rfl) (by kernel_rfl) (fun _ _ _ h => h) (Or.inl ⟨by kernel_rfl, ?_⟩) (by assumption) ?_
  rotate_left
  · intro w hSw
    go_simp
    try with_reducible rfl
  simp only [Act.put, List.setIfInBounds_toArray, List.set_cons_zero, List.set_cons_succ, List.getElem_toArray, List.getElem_cons_succ, List.getElem_cons_zero]
  refine wpAnyH_done (by kernel_rfl) ?_ _
  refine NoPanic.normal ?_
  try unfold put8 at hHeld HZ
  clear hHeld
  generalize World.setCell (World.setCell (World.setCell (World.setCell (World.setCell (World.setCell (World.setCell (World.setCell _ _ _) _ _) _ _) _ _) _ _) _ _) _ _) _ _ = W9 at *
  obtain ⟨c0, c1, c2, c3, c4, c5, c6, c7⟩ := HZ.out.1.c
  go_wp2_with fail
  exact bodyPost_ret (v := .tuple #[.int .i64 (q + x2 * 8), ov 2 0 (lo1 + x0 * 8) (ix + x1 * 8) S D false 0, .int .i64 3, .int .i64 0]) (by simp [results, Tryd.results14, go_sem, *]; try rfl) rfl ⟨rfl, HZ.out.2.2.2⟩
set_option maxRecDepth 100000 in
set_option maxHeartbeats 8000000 in
theorem rs_1nxo (n cap bb off : Nat) (z : Nat → Nat) (R q x0 x2 : Int) (w : World) (hn : 0 < n) (hc : n ≤ cap) (hb : bb < w.heap.size) (hz : ∀ j, j < n → w.cell? ⟨bb, off + j, none⟩ = some (.int .u8 (z j : Nat))) (hz0 : z 0 < 256) (e2 : ((z 0 : Nat) : Int) / 64 = 1) (e3 : bits .and .u8 (z 0 : Nat) 7 = 4) (e4 : bits .and .u8 (((z 0 : Nat) : Int) / 8) 7 = q) (e5 : bits .and .u8 R 1 = x0) (e6 : bits .and .u8 (R / 4) 1 = x2) (b2 : 0 ≤ q) (b3 : q ≤ 7) (b4 : 0 ≤ x0) (b5 : x0 ≤ 1) (b6 : 0 ≤ x2) (b7 : x2 ≤ 1) (S ix x1 lo1 : Int) (e7 : bits .and .u8 (z 1 : Nat) 7 = lo1) (e8 : bits .and .u8 (((z 1 : Nat) : Int) / 8) 7 = ix) (e9 : bits .and .u8 (R / 2) 1 = x1) (eS : wrap64 (2 ^ (z 1 / 64)) = S) (hz1 : z 1 < 256) (b8 : 0 ≤ lo1) (b9 : lo1 ≤ 7) (L5 : (lo1 == 5) = false) (b10 : 0 ≤ ix) (b11 : ix ≤ 7) (b12 : 0 ≤ x1) (b13 : x1 ≤ 1) (I4 : (ix + x1 * 8 != 4) = false) (hx : 3 ≤ n) (D : Int) (hN : ∀ W, (∀ j, j < n → W.cell? ⟨bb, off + j, none⟩ = some (.int .u8 (z j : Nat))) → Calls Tryd.prog 45 #[.slice (some ⟨bb, off + 2, none⟩) (n - 2) (cap - 2), .int .i64 1] W fun e w' => e = .returned (.tuple #[.int .i64 D, .bool true]) ∧ W = w') :
    Calls Tryd.prog 14 #[.slice (some ⟨bb, off, none⟩) n cap, .int .u8 R] w fun e w' => e = .returned (.tuple #[.int .i64 (q + x2 * 8), ov 2 0 (lo1 + x0 * 8) (-1) 1 D false 0, .int .i64 3, .int .i64 0]) ∧ Below w.heap.size w w' := by
  have HN := Lib.hid hN
  clear hN
  have HS := Lib.hid (RT.start w n bb off z hb hz)
  clear hz
  go_enter Tryd.func14, Tryd.ntmps14
  go_upto_region 1 with fail
  generalize World.alloc _ _ = W0 at *
  go_wp2_with fail
  refine wp_region_noPanic ?_
  refine wp_region_held_drew (S := fun W => RT w n bb off z 0 0 0 0 0 0 false 0 W) (by kernel_rfl) ?_ (fun hHeld => ?_)
  · exact HS.out.drew
  generalize World.drew _ = v0 at hHeld ⊢
  refine wpAnyH_take (i := 0) (v := ?_) rfl (by kernel_rfl) (by kernel_rfl) (by kernel_rfl) (fun _ _ _ h => h) (Or.inl ⟨by kernel_rfl, ?_⟩) (by assumption) ?_
  rotate_left
  · intro w hSw
    go_simp
    try with_reducible rfl
  simp only [Act.put, List.setIfInBounds_toArray, List.set_cons_zero, List.set_cons_succ, List.getElem_toArray, List.getElem_cons_succ, List.getElem_cons_zero]
  refine wpAnyH_take (i := 1) (v := ?_) rfl (by kernel_rfl) (by kernel_rfl) (by kernel_rfl) (fun _ _ _ h => h) (Or.inl ⟨by kernel_rfl, ?_⟩) (by assumption) ?_
  rotate_left
  · intro w hSw
    go_simp
    try with_reducible rfl
  simp only [Act.put, List.setIfInBounds_toArray, List.set_cons_zero, List.set_cons_succ, List.getElem_toArray, List.getElem_cons_succ, List.getElem_cons_zero]
  refine wpAnyH_take (i := 2) (v := ?_) rfl (by kernel_rfl) (by kernel_rfl) (by kernel_rfl) (fun _ _ _ h => h) (Or.inl ⟨by kernel_rfl, ?_⟩) (by assumption) ?_
  rotate_left
  · intro w hSw
    have cc := hSw.c0 hn
    go_simp
    try with_reducible rfl
  simp only [Act.put, List.setIfInBounds_toArray, List.set_cons_zero, List.set_cons_succ, List.getElem_toArray, List.getElem_cons_succ, List.getElem_cons_zero]
  refine wpAnyH_take (i := 3) (v := ?_) rfl (by kernel_rfl) (by kernel_rfl) (by kernel_rfl) (fun _ _ _ h => h) (Or.inl ⟨by kernel_rfl, ?_⟩) (by assumption) ?_
  rotate_left
  · intro w hSw
    go_simp
    try with_reducible rfl
  simp only [Act.put, List.setIfInBounds_toArray, List.set_cons_zero, List.set_cons_succ, List.getElem_toArray, List.getElem_cons_succ, List.getElem_cons_zero]
  refine wpAnyH_take (i := 4) (v := ?_) rfl (by kernel_rfl) (by kernel_rfl) (by kernel_rfl) (fun _ _ _ h => h) (Or.inl ⟨by kernel_rfl, ?_⟩) (by assumption) ?_
  rotate_left
  · intro w hSw
    go_simp
    try with_reducible rfl
  simp only [Act.put, List.setIfInBounds_toArray, List.set_cons_zero, List.set_cons_succ, List.getElem_toArray, List.getElem_cons_succ, List.getElem_cons_zero]
  refine wpAnyH_take (i := 5) (v := ?_) rfl (by kernel_rfl) (by kernel_rfl) (by kernel_rfl) (fun _ _ _ h => h) (Or.inl ⟨by kernel_rfl, ?_⟩) (by assumption) ?_
  rotate_left
  · intro w hSw
    go_simp
    try with_reducible rfl
  simp only [Act.put, List.setIfInBounds_toArray, List.set_cons_zero, List.set_cons_succ, List.getElem_toArray, List.getElem_cons_succ, List.getElem_cons_zero]
  refine wpAnyH_take (i := 6) (v := ?_) rfl (by kernel_rfl) (by kernel_rfl) (by kernel_rfl) (fun _ _ _ h => h) (Or.inl ⟨by kernel_rfl, ?_⟩) (by assumption) ?_
  rotate_left
  · intro w hSw
    have cc := hSw.c0 hn
    go_simp
    try with_reducible rfl
  simp only [Act.put, List.setIfInBounds_toArray, List.set_cons_zero, List.set_cons_succ, List.getElem_toArray, List.getElem_cons_succ, List.getElem_cons_zero]
  refine wpAnyH_take (i := 7) (v := ?_) rfl (by kernel_rfl) (by kernel_rfl) (by kernel_rfl) (fun _ _ _ h => h) (Or.inl ⟨by kernel_rfl, ?_⟩) (by assumption) ?_
  rotate_left
  · intro w hSw
    go_simp
    try with_reducible rfl
  simp only [Act.put, List.setIfInBounds_toArray, List.set_cons_zero, List.set_cons_succ, List.getElem_toArray, List.getElem_cons_succ, List.getElem_cons_zero]
  refine wpAnyH_take (i := 8) (v := ?_) rfl (by kernel_rfl) (by kernel_rfl) (by kernel_rfl) (fun _ _ _ h => h) (Or.inl ⟨by kernel_rfl, ?_⟩) (by assumption) ?_
  rotate_left
  · intro w hSw
    go_simp
    try with_reducible rfl
  simp only [Act.put, List.setIfInBounds_toArray, List.set_cons_zero, List.set_cons_succ, List.getElem_toArray, List.getElem_cons_succ, List.getElem_cons_zero]
  refine wpAnyH_take (i := 9) (v := ?_) rfl (by kernel_rfl) (by kernel_rfl) (by kernel_rfl) (fun _ _ _ h => h) (Or.inl ⟨by kernel_rfl, ?_⟩) (by assumption) ?_
  rotate_left
  · intro w hSw
    go_simp
    try with_reducible rfl
  simp only [Act.put, List.setIfInBounds_toArray, List.set_cons_zero, List.set_cons_succ, List.getElem_toArray, List.getElem_cons_succ, List.getElem_cons_zero]
  refine wpAnyH_take (i := 10) (v := ?_) rfl (by kernel_rfl) (by kernel_rfl) (by kernel_rfl) (fun _ _ _ h => h) (Or.inl ⟨by kernel_rfl, ?_⟩) (by assumption) ?_
  rotate_left
  · intro w hSw
    go_simp
    try with_reducible rfl
  simp only [Act.put, List.setIfInBounds_toArray, List.set_cons_zero, List.set_cons_succ, List.getElem_toArray, List.getElem_cons_succ, List.getElem_cons_zero]
  refine wpAnyH_done (by kernel_rfl) ?_ _
  refine NoPanic.normal ?_
  have HS1 := Lib.hid hHeld
  clear HS hHeld
  have cc := HS1.out.c0 hn
  have wl : IntKind.i64.wrap 4 = 4 := by decide +kernel
  have mx : mxI (4 + x0 * 8) = 4 + x0 * 8 := by unfold mxI; omega
  go_upto_region 8 with (go_at_call 26; refine (rmem_any _ _ _).mono ?_; rintro e w3 ⟨rfl, hb3⟩; have HS3 := Lib.hid (HS1.out.below hb3); clear hb3 cc)
  have HO := Lib.hid (RO.mk HS3.out 2 0 (4 + x0 * 8) (-1) 1 0 false 0)
  clear HS3 HS1
  generalize World.alloc w3 _ = V3 at *
  generalize w3.heap.size = b3 at *
  obtain ⟨c0, c1, c2, c3, c4, c5, c6, c7⟩ := HO.out.2.1.c
  obtain ⟨f0, f1, f2, f3, f4, f5, f6, f7⟩ := HO.out.2.1.f
  have cc1 := HO.out.c1 (by omega)
  go_upto_region 18 with fail
  have HO3 := Lib.hid (HO.out.setB (lo1 + x0 * 8))
  clear HO c0 c1 c2 c3 c4 c5 c6 c7 f0 f1 f2 f3 f4 f5 f6 f7
  try clear cc1
  generalize World.setCell V3 _ _ = V4 at *
  have HO := Lib.hid HO3.out
  clear HO3
  obtain ⟨c0, c1, c2, c3, c4, c5, c6, c7⟩ := HO.out.2.1.c
  obtain ⟨f0, f1, f2, f3, f4, f5, f6, f7⟩ := HO.out.2.1.f
  have cc1 := HO.out.c1 (by omega)
  go_upto_region 34 with (first | (exfalso; omega) | (go_at_call 45; refine (HN.out _ (fun j hj => HO.out.num j hj)).mono ?_; rintro e w5 ⟨rfl, rfl⟩))
  have HO3 := Lib.hid (HO.out.setD D)
  clear HO c0 c1 c2 c3 c4 c5 c6 c7 f0 f1 f2 f3 f4 f5 f6 f7 HN
  try clear cc1
  generalize World.setCell V4 _ _ = V9 at *
  have HO := Lib.hid HO3.out
  clear HO3 e2 e3 e4 e5 e6 e7 e8 e9 eS hn hc hz0 hx
  refine wp_region_noPanic ?_
  refine wp_region_held_drew (S := fun W => RO w n bb off z b3 2 0 (lo1 + x0 * 8) (-1) 1 D false 0 W) (by kernel_rfl) ?_ (fun hHeld => ?_)
  · exact HO.out.drew
  generalize World.drew _ = v0 at hHeld ⊢
  refine wpAnyH_take (i := 0) (v := ?_) rfl (by kernel_rfl) (by kernel_rfl) (by kernel_rfl) (fun _ _ _ h => h) (Or.inl ⟨by kernel_rfl, ?_⟩) (by assumption) ?_
  rotate_left
  · intro w hSw
    go_simp
    try with_reducible rfl
  simp only [Act.put, List.setIfInBounds_toArray, List.set_cons_zero, List.set_cons_succ, List.getElem_toArray, List.getElem_cons_succ, List.getElem_cons_zero]
  refine wpAnyH_take (i := 1) (v := ?_) rfl (by kernel_rfl) (by kernel_rfl) (by kernel_rfl) (fun _ _ _ h => h) (Or.inl ⟨by kernel_rfl, ?_⟩) (by assumption) ?_
  rotate_left
  · intro w hSw
    obtain ⟨c0, c1, c2, c3, c4, c5, c6, c7⟩ := hSw.2.1.c
    go_simp
    try with_reducible rfl
  simp only [Act.put, List.setIfInBounds_toArray, List.set_cons_zero, List.set_cons_succ, List.getElem_toArray, List.getElem_cons_succ, List.getElem_cons_zero]
  refine wpAnyH_take (i := 2) (v := ?_) rfl (by kernel_rfl) (by kernel_rfl) (by kernel_rfl) (fun _ _ _ h => h) (Or.inl ⟨by kernel_rfl, ?_⟩) (by assumption) ?_
  rotate_left
  · intro w hSw
    go_simp
    try with_reducible rfl
  simp only [Act.put, List.setIfInBounds_toArray, List.set_cons_zero, List.set_cons_succ, List.getElem_toArray, List.getElem_cons_succ, List.getElem_cons_zero]
  refine wpAnyH_take (i := 3) (v := ?_) rfl (by kernel_rfl) (by kernel_rfl) (by kernel_rfl) (fun _ _ _ h => h) (Or.inl ⟨by kernel_rfl, ?_⟩) (by assumption) ?_
  rotate_left
  · intro w hSw
    go_simp
    try with_reducible rfl
  simp only [Act.put, List.setIfInBounds_toArray, List.set_cons_zero, List.set_cons_succ, List.getElem_toArray, List.getElem_cons_succ, List.getElem_cons_zero]
  refine wpAnyH_take (i := 4) (v := ?_) rfl (by kernel_rfl) (by kernel_rfl) (by kernel_rfl) (fun _ _ _ h => h) (Or.inl ⟨by kernel_rfl, ?_⟩) (by assumption) ?_
  rotate_left
  · intro w hSw
    go_simp
    try with_reducible rfl
  simp only [Act.put, List.setIfInBounds_toArray, List.set_cons_zero, List.set_cons_succ, List.getElem_toArray, List.getElem_cons_succ, List.getElem_cons_zero]
  refine wpAnyH_take (i := 5) (v := ?_) rfl (by kernel_rfl) (by kernel_rfl) (by kernel_rfl) (fun _ _ _ h => h) (Or.inl ⟨by kernel_rfl, ?_⟩) (by assumption) ?_
  rotate_left
  · intro w hSw
    go_simp
    try with_reducible rfl
  simp only [Act.put, List.setIfInBounds_toArray, List.set_cons_zero, List.set_cons_succ, List.getElem_toArray, List.getElem_cons_succ, List.getElem_cons_zero]
  refine wpAnyH_ready (rs := [6]) (by kernel_rfl) (by simp) ?_
  refine AllReadyH.cons rfl (fun K hK => ?_) AllReadyH.nil
  obtain ⟨_, _, _, _, _, _, _, _, h8⟩ := hHeld.fro
  obtain ⟨c0, c1, c2, c3, c4, c5, c6, c7⟩ := h8.c
  obtain ⟨f0, f1, f2, f3, f4, f5, f6, f7⟩ := h8.f
  have h9 := Lib.hid (hHeld.put 2 0 (lo1 + x0 * 8) (-1) 1 D false 0)
  clear h8
  go_simp
  refine hK.out _ _ h9.out.1 (fun hHeld2 => ?_)
  have HZ := Lib.hid h9.out.2
  clear hK K hHeld c0 c1 c2 c3 c4 c5 c6 c7 f0 f1 f2 f3 f4 f5 f6 f7 h9
  have hHeld := hHeld2
  clear hHeld2
  try simp only [Act.put, List.setIfInBounds_toArray, List.set_cons_zero, List.set_cons_succ, List.getElem_toArray, List.getElem_cons_succ, List.getElem_cons_zero]
  refine wpAnyH_take (i := 7) (v := ?_) rfl (by kernel_rfl) (by kernel_rfl) (by kernel_rfl) (fun _ _ _ h => h) (Or.inl ⟨by kernel_rfl, ?_⟩) (by assumption) ?_
  rotate_left
  · intro w hSw
    go_simp
    try with_reducible rfl
  simp only [Act.put, List.setIfInBounds_toArray, List.set_cons_zero, List.set_cons_succ, List.getElem_toArray, List.getElem_cons_succ, List.getElem_cons_zero]
  refine wpAnyH_take (i := 8) (v := ?_) rfl (by kernel_rfl) (by kernel_rfl) (by kernel_rfl) (fun _ _ _ h => h) (Or.inl ⟨by kernel_rfl, ?_⟩) (by assumption) ?_
  rotate_left
  · intro w hSw
    go_simp
    try with_reducible rfl
  simp only [Act.put, List.setIfInBounds_toArray, List.set_cons_zero, List.set_cons_succ, List.getElem_toArray, List.getElem_cons_succ, List.getElem_cons_zero]
  refine wpAnyH_done (by kernel_rfl) ?_ _
  refine NoPanic.normal ?_
  try unfold put8 at hHeld HZ
  clear hHeld
  generalize World.setCell (World.setCell (World.setCell (World.setCell (World.setCell (World.setCell (World.setCell (World.setCell _ _ _) _ _) _ _) _ _) _ _) _ _) _ _) _ _ = W9 at *
  obtain ⟨c0, c1, c2, c3, c4, c5, c6, c7⟩ := HZ.out.1.c
  go_wp2_with fail
  exact bodyPost_ret (v := .tuple #[.int .i64 (q + x2 * 8), ov 2 0 (lo1 + x0 * 8) (-1) 1 D false 0, .int .i64 3, .int .i64 0]) (by simp [results, Tryd.results14, go_sem, *]; try rfl) rfl ⟨rfl, HZ.out.2.2.2⟩
open Go.RowKit
set_option linter.unusedVariables false
set_option linter.unusedSimpArgs false
set_option maxRecDepth 100000 in
set_option maxHeartbeats 8000000 in
theorem rs_1nif (n cap bb off : Nat) (z : Nat → Nat) (R q x0 x2 : Int) (w : World) (hn : 0 < n) (hc : n ≤ cap) (hb : bb < w.heap.size) (hz : ∀ j, j < n → w.cell? ⟨bb, off + j, none⟩ = some (.int .u8 (z j : Nat))) (hz0 : z 0 < 256) (e2 : ((z 0 : Nat) : Int) / 64 = 1) (e3 : bits .and .u8 (z 0 : Nat) 7 = 4) (e4 : bits .and .u8 (((z 0 : Nat) : Int) / 8) 7 = q) (e5 : bits .and .u8 R 1 = x0) (e6 : bits .and .u8 (R / 4) 1 = x2) (b2 : 0 ≤ q) (b3 : q ≤ 7) (b4 : 0 ≤ x0) (b5 : x0 ≤ 1) (b6 : 0 ≤ x2) (b7 : x2 ≤ 1) (S ix x1 lo1 : Int) (e7 : bits .and .u8 (z 1 : Nat) 7 = lo1) (e8 : bits .and .u8 (((z 1 : Nat) : Int) / 8) 7 = ix) (e9 : bits .and .u8 (R / 2) 1 = x1) (eS : wrap64 (2 ^ (z 1 / 64)) = S) (hz1 : z 1 < 256) (b8 : 0 ≤ lo1) (b9 : lo1 ≤ 7) (L5 : (lo1 == 5) = false) (b10 : 0 ≤ ix) (b11 : ix ≤ 7) (b12 : 0 ≤ x1) (b13 : x1 ≤ 1) (I4 : (ix + x1 * 8 != 4) = true) (hx : 2 ≤ n ∧ n < 3) :
    Calls Tryd.prog 14 #[.slice (some ⟨bb, off, none⟩) n cap, .int .u8 R] w fun e w' => e = .returned (.tuple #[.int .i64 0, ov 0 0 0 0 0 0 false 0, .int .i64 0, .int .i64 80]) ∧ Below w.heap.size w w' := by
  obtain ⟨hx, hy⟩ := hx
  have HS := Lib.hid (RT.start w n bb off z hb hz)
  clear hz
  go_enter Tryd.func14, Tryd.ntmps14
  go_upto_region 1 with fail
  generalize World.alloc _ _ = W0 at *
  go_wp2_with fail
  refine wp_region_noPanic ?_
  refine wp_region_held_drew (S := fun W => RT w n bb off z 0 0 0 0 0 0 false 0 W) (by kernel_rfl) ?_ (fun hHeld => ?_)
  · exact HS.out.drew
  generalize World.drew _ = v0 at hHeld ⊢
  refine wpAnyH_take (i := 0) (v := ?_) rfl (by kernel_rfl) (by kernel_rfl) (by kernel_rfl) (fun _ _ _ h => h) (Or.inl ⟨by kernel_rfl, ?_⟩) (by assumption) ?_
  rotate_left
  · intro w hSw
    go_simp
    try with_reducible rfl
  simp only [Act.put, List.setIfInBounds_toArray, List.set_cons_zero, List.set_cons_succ, List.getElem_toArray, List.getElem_cons_succ, List.getElem_cons_zero]
  refine wpAnyH_take (i := 1) (v := ?_) rfl (by kernel_rfl) (by kernel_rfl) (by kernel_rfl) (fun _ _ _ h => h) (Or.inl ⟨by kernel_rfl, ?_⟩) (by assumption) ?_
  rotate_left
  · intro w hSw
    go_simp
    try with_reducible rfl
  simp only [Act.put, List.setIfInBounds_toArray, List.set_cons_zero, List.set_cons_succ, List.getElem_toArray, List.getElem_cons_succ, List.getElem_cons_zero]
  refine wpAnyH_take (i := 2) (v := ?_) rfl (by kernel_rfl) (by kernel_rfl) (by kernel_rfl) (fun _ _ _ h => h) (Or.inl ⟨by kernel_rfl, ?_⟩) (by assumption) ?_
  rotate_left
  · intro w hSw
    have cc := hSw.c0 hn
    go_simp
    try with_reducible rfl
  simp only [Act.put, List.setIfInBounds_toArray, List.set_cons_zero, List.set_cons_succ, List.getElem_toArray, List.getElem_cons_succ, List.getElem_cons_zero]
  refine wpAnyH_take (i := 3) (v := ?_) rfl (by kernel_rfl) (by kernel_rfl) (by kernel_rfl) (fun _ _ _ h => h) (Or.inl ⟨by kernel_rfl, ?_⟩) (by assumption) ?_
  rotate_left
  · intro w hSw
    go_simp
    try with_reducible rfl
  simp only [Act.put, List.setIfInBounds_toArray, List.set_cons_zero, List.set_cons_succ, List.getElem_toArray, List.getElem_cons_succ, List.getElem_cons_zero]
  refine wpAnyH_take (i := 4) (v := ?_) rfl (by kernel_rfl) (by kernel_rfl) (by kernel_rfl) (fun _ _ _ h => h) (Or.inl ⟨by kernel_rfl, ?_⟩) (by assumption) ?_
  rotate_left
  · intro w hSw
    go_simp
    try with_reducible rfl
  simp only [Act.put, List.setIfInBounds_toArray, List.set_cons_zero, List.set_cons_succ, List.getElem_toArray, List.getElem_cons_succ, List.getElem_cons_zero]
  refine wpAnyH_take (i := 5) (v := ?_) rfl (by kernel_rfl) (by kernel_rfl) (by kernel_rfl) (fun _ _ _ h => h) (Or.inl ⟨by kernel_rfl, ?_⟩) (by assumption) ?_
  rotate_left
  · intro w hSw
    go_simp
    try with_reducible rfl
  simp only [Act.put, List.setIfInBounds_toArray, List.set_cons_zero, List.set_cons_succ, List.getElem_toArray, List.getElem_cons_succ, List.getElem_cons_zero]
  refine wpAnyH_take (i := 6) (v := ?_) rfl (by kernel_rfl) (by kernel_rfl) (by kernel_rfl) (fun _ _ _ h => h) (Or.inl ⟨by kernel_rfl, ?_⟩) (by assumption) ?_
  rotate_left
  · intro w hSw
    have cc := hSw.c0 hn
    go_simp
    try with_reducible rfl
  simp only [Act.put, List.setIfInBounds_toArray, List.set_cons_zero, List.set_cons_succ, List.getElem_toArray, List.getElem_cons_succ, List.getElem_cons_zero]
  refine wpAnyH_take (i := 7) (v := ?_) rfl (by kernel_rfl) (by kernel_rfl) (by kernel_rfl) (fun _ _ _ h => h) (Or.inl ⟨by kernel_rfl, ?_⟩) (by assumption) ?_
  rotate_left
  · intro w hSw
    go_simp
    try with_reducible rfl
  simp only [Act.put, List.setIfInBounds_toArray, List.set_cons_zero, List.set_cons_succ, List.getElem_toArray, List.getElem_cons_succ, List.getElem_cons_zero]
  refine wpAnyH_take (i := 8) (v := ?_) rfl (by kernel_rfl) (by kernel_rfl) (by kernel_rfl) (fun _ _ _ h => h) (Or.inl ⟨by kernel_rfl, ?_⟩) (by assumption) ?_
  rotate_left
  · intro w hSw
    go_simp
    try with_reducible rfl
  simp only [Act.put, List.setIfInBounds_toArray, List.set_cons_zero, List.set_cons_succ, List.getElem_toArray, List.getElem_cons_succ, List.getElem_cons_zero]
  refine wpAnyH_take (i := 9) (v := ?_) rfl (by kernel_rfl) (by kernel_rfl) (by kernel_rfl) (fun _ _ _ h => h) (Or.inl ⟨by kernel_rfl, ?_⟩) (by assumption) ?_
  rotate_left
  · intro w hSw
    go_simp
    try with_reducible rfl
  simp only [Act.put, List.setIfInBounds_toArray, List.set_cons_zero, List.set_cons_succ, List.getElem_toArray, List.getElem_cons_succ, List.getElem_cons_zero]
  refine wpAnyH_take (i := 10) (v := ?_) rfl (by kernel_rfl) (by kernel_rfl) (by kernel_rfl) (fun _ _ _ h => h) (Or.inl ⟨by kernel_rfl, ?_⟩) (by assumption) ?_
  rotate_left
  · intro w hSw
    go_simp
    try with_reducible rfl
  simp only [Act.put, List.setIfInBounds_toArray, List.set_cons_zero, List.set_cons_succ, List.getElem_toArray, List.getElem_cons_succ, List.getElem_cons_zero]
  refine wpAnyH_done (by kernel_rfl) ?_ _
  refine NoPanic.normal ?_
  have HS1 := Lib.hid hHeld
  clear HS hHeld
  have cc := HS1.out.c0 hn
  have wl : IntKind.i64.wrap 4 = 4 := by decide +kernel
  have mx : mxI (4 + x0 * 8) = 4 + x0 * 8 := by unfold mxI; omega
  go_upto_region 8 with (go_at_call 26; refine (rmem_any _ _ _).mono ?_; rintro e w3 ⟨rfl, hb3⟩; have HS3 := Lib.hid (HS1.out.below hb3); clear hb3 cc)
  have HO := Lib.hid (RO.mk HS3.out 2 0 (4 + x0 * 8) (-1) 1 0 false 0)
  clear HS3 HS1
  generalize World.alloc w3 _ = V3 at *
  generalize w3.heap.size = b3 at *
  obtain ⟨c0, c1, c2, c3, c4, c5, c6, c7⟩ := HO.out.2.1.c
  obtain ⟨f0, f1, f2, f3, f4, f5, f6, f7⟩ := HO.out.2.1.f
  have cc1 := HO.out.c1 (by omega)
  go_upto_region 18 with fail
  have HO3 := Lib.hid (HO.out.setB (lo1 + x0 * 8))
  clear HO c0 c1 c2 c3 c4 c5 c6 c7 f0 f1 f2 f3 f4 f5 f6 f7
  try clear cc1
  generalize World.setCell V3 _ _ = V4 at *
  have HO := Lib.hid HO3.out
  clear HO3
  obtain ⟨c0, c1, c2, c3, c4, c5, c6, c7⟩ := HO.out.2.1.c
  obtain ⟨f0, f1, f2, f3, f4, f5, f6, f7⟩ := HO.out.2.1.f
  have cc1 := HO.out.c1 (by omega)
  go_upto_region 21 with fail
  have HO3 := Lib.hid (HO.out.setI (ix + x1 * 8))
  clear HO c0 c1 c2 c3 c4 c5 c6 c7 f0 f1 f2 f3 f4 f5 f6 f7
  try clear cc1
  generalize World.setCell V4 _ _ = V5 at *
  have HO := Lib.hid HO3.out
  clear HO3
  obtain ⟨c0, c1, c2, c3, c4, c5, c6, c7⟩ := HO.out.2.1.c
  obtain ⟨f0, f1, f2, f3, f4, f5, f6, f7⟩ := HO.out.2.1.f
  have cc1 := HO.out.c1 (by omega)
  go_upto_region 22 with fail
  have HO3 := Lib.hid (HO.out.setS S)
  clear HO c0 c1 c2 c3 c4 c5 c6 c7 f0 f1 f2 f3 f4 f5 f6 f7
  try clear cc1
  generalize World.setCell V5 _ _ = V6 at *
  have HO := Lib.hid HO3.out
  clear HO3
  obtain ⟨c0, c1, c2, c3, c4, c5, c6, c7⟩ := HO.out.2.1.c
  obtain ⟨f0, f1, f2, f3, f4, f5, f6, f7⟩ := HO.out.2.1.f
  have cc1 := HO.out.c1 (by omega)
  obtain ⟨_, _, _, _, _, _, _, _, h8⟩ := HO.out.fro
  obtain ⟨e0, e1, e2', e3', e4', e5', e6', e7'⟩ := h8.c
  obtain ⟨g0, g1, g2, g3, g4, g5, g6, g7⟩ := h8.f
  clear h8
  go_wp2_with (go_at_call 45; refine (rnum_few _ _ _ _ _ (by omega)).mono ?_; rintro e w5 ⟨rfl, rfl⟩)
  all_goals
    have HF := Lib.hid (HO.out.put 0 0 0 0 0 0 false 0).2
    unfold put8 at HF
    clear HO e0 e1 e2' e3' e4' e5' e6' e7' g0 g1 g2 g3 g4 g5 g6 g7
    generalize World.setCell (World.setCell (World.setCell (World.setCell (World.setCell (World.setCell (World.setCell (World.setCell _ _ _) _ _) _ _) _ _) _ _) _ _) _ _) _ _ = W4 at *
    obtain ⟨c0, c1, c2, c3, c4, c5, c6, c7⟩ := HF.out.1.c
    exact bodyPost_ret (v := .tuple #[.int .i64 0, ov 0 0 0 0 0 0 false 0, .int .i64 0, .int .i64 80]) (by simp [results, Tryd.results14, go_sem, *]; try rfl) rfl ⟨rfl, HF.out.2.2.2⟩
set_option maxRecDepth 100000 in
set_option maxHeartbeats 8000000 in
theorem rs_1nxf (n cap bb off : Nat) (z : Nat → Nat) (R q x0 x2 : Int) (w : World) (hn : 0 < n) (hc : n ≤ cap) (hb : bb < w.heap.size) (hz : ∀ j, j < n → w.cell? ⟨bb, off + j, none⟩ = some (.int .u8 (z j : Nat))) (hz0 : z 0 < 256) (e2 : ((z 0 : Nat) : Int) / 64 = 1) (e3 : bits .and .u8 (z 0 : Nat) 7 = 4) (e4 : bits .and .u8 (((z 0 : Nat) : Int) / 8) 7 = q) (e5 : bits .and .u8 R 1 = x0) (e6 : bits .and .u8 (R / 4) 1 = x2) (b2 : 0 ≤ q) (b3 : q ≤ 7) (b4 : 0 ≤ x0) (b5 : x0 ≤ 1) (b6 : 0 ≤ x2) (b7 : x2 ≤ 1) (S ix x1 lo1 : Int) (e7 : bits .and .u8 (z 1 : Nat) 7 = lo1) (e8 : bits .and .u8 (((z 1 : Nat) : Int) / 8) 7 = ix) (e9 : bits .and .u8 (R / 2) 1 = x1) (eS : wrap64 (2 ^ (z 1 / 64)) = S) (hz1 : z 1 < 256) (b8 : 0 ≤ lo1) (b9 : lo1 ≤ 7) (L5 : (lo1 == 5) = false) (b10 : 0 ≤ ix) (b11 : ix ≤ 7) (b12 : 0 ≤ x1) (b13 : x1 ≤ 1) (I4 : (ix + x1 * 8 != 4) = false) (hx : 2 ≤ n ∧ n < 3) :
    Calls Tryd.prog 14 #[.slice (some ⟨bb, off, none⟩) n cap, .int .u8 R] w fun e w' => e = .returned (.tuple #[.int .i64 0, ov 0 0 0 0 0 0 false 0, .int .i64 0, .int .i64 80]) ∧ Below w.heap.size w w' := by
  obtain ⟨hx, hy⟩ := hx
  have HS := Lib.hid (RT.start w n bb off z hb hz)
  clear hz
  go_enter Tryd.func14, Tryd.ntmps14
  go_upto_region 1 with fail
  generalize World.alloc _ _ = W0 at *
  go_wp2_with fail
  refine wp_region_noPanic ?_
  refine wp_region_held_drew (S := fun W => RT w n bb off z 0 0 0 0 0 0 false 0 W) (by kernel_rfl) ?_ (fun hHeld => ?_)
  · exact HS.out.drew
  generalize World.drew _ = v0 at hHeld ⊢
  refine wpAnyH_take (i := 0) (v := ?_) rfl (by kernel_rfl) (by kernel_rfl) (by kernel_rfl) (fun _ _ _ h => h) (Or.inl ⟨by kernel_rfl, ?_⟩) (by assumption) ?_
  rotate_left
  · intro w hSw
    go_simp
    try with_reducible rfl
  simp only [Act.put, List.setIfInBounds_toArray, List.set_cons_zero, List.set_cons_succ, List.getElem_toArray, List.getElem_cons_succ, List.getElem_cons_zero]
  refine wpAnyH_take (i := 1) (v := ?_) rfl (by kernel_rfl) (by kernel_rfl) (by kernel_rfl) (fun _ _ _ h => h) (Or.inl ⟨by kernel_rfl, ?_⟩) (by assumption) ?_
  rotate_left
  · intro w hSw
    go_simp
    try with_reducible rfl
  simp only [Act.put, List.setIfInBounds_toArray, List.set_cons_zero, List.set_cons_succ, List.getElem_toArray, List.getElem_cons_succ, List.getElem_cons_zero]
  refine wpAnyH_take (i := 2) (v := ?_) rfl (by kernel_rfl) (by kernel_rfl) (by kernel_rfl) (fun _ _ _ h => h) (Or.inl ⟨by kernel_rfl, ?_⟩) (by assumption) ?_
  rotate_left
  · intro w hSw
    have cc := hSw.c0 hn
    go_simp
    try with_reducible rfl
  simp only [Act.put, List.setIfInBounds_toArray, List.set_cons_zero, List.set_cons_succ, List.getElem_toArray, List.getElem_cons_succ, List.getElem_cons_zero]
  refine wpAnyH_take (i := 3) (v := ?_) rfl (by kernel_rfl) (by kernel_rfl) (by kernel_rfl) (fun _ _ _ h => h) (Or.inl ⟨by kernel_rfl, ?_⟩) (by assumption) ?_
  rotate_left
  · intro w hSw
    go_simp
    try with_reducible rfl
  simp only [Act.put, List.setIfInBounds_toArray, List.set_cons_zero, List.set_cons_succ, List.getElem_toArray, List.getElem_cons_succ, List.getElem_cons_zero]
  refine wpAnyH_take (i := 4) (v := ?_) rfl (by kernel_rfl) (by kernel_rfl) (by kernel_rfl) (fun _ _ _ h => h) (Or.inl ⟨by kernel_rfl, ?_⟩) (by assumption) ?_
  rotate_left
  · intro w hSw
    go_simp
    try with_reducible rfl
  simp only [Act.put, List.setIfInBounds_toArray, List.set_cons_zero, List.set_cons_succ, List.getElem_toArray, List.getElem_cons_succ, List.getElem_cons_zero]
  refine wpAnyH_take (i := 5) (v := ?_) rfl (by kernel_rfl) (by kernel_rfl) (by kernel_rfl) (fun _ _ _ h => h) (Or.inl ⟨by kernel_rfl, ?_⟩) (by assumption) ?_
  rotate_left
  · intro w hSw
    go_simp
    try with_reducible rfl
  simp only [Act.put, List.setIfInBounds_toArray, List.set_cons_zero, List.set_cons_succ, List.getElem_toArray, List.getElem_cons_succ, List.getElem_cons_zero]
  refine wpAnyH_take (i := 6) (v := ?_) rfl (by kernel_rfl) (by kernel_rfl) (by kernel_rfl) (fun _ _ _ h => h) (Or.inl ⟨by kernel_rfl, ?_⟩) (by assumption) ?_
  rotate_left
  · intro w hSw
    have cc := hSw.c0 hn
    go_simp
    try with_reducible rfl
  simp only [Act.put, List.setIfInBounds_toArray, List.set_cons_zero, List.set_cons_succ, List.getElem_toArray, List.getElem_cons_succ, List.getElem_cons_zero]
  refine wpAnyH_take (i := 7) (v := ?_) rfl (by kernel_rfl) (by kernel_rfl) (by kernel_rfl) (fun _ _ _ h => h) (Or.inl ⟨by kernel_rfl, ?_⟩) (by assumption) ?_
  rotate_left
  · intro w hSw
    go_simp
    try with_reducible rfl
  simp only [Act.put, List.setIfInBounds_toArray, List.set_cons_zero, List.set_cons_succ, List.getElem_toArray, List.getElem_cons_succ, List.getElem_cons_zero]
  refine wpAnyH_take (i := 8) (v := ?_) rfl (by kernel_rfl) (by kernel_rfl) (by kernel_rfl) (fun _ _ _ h => h) (Or.inl ⟨by kernel_rfl, ?_⟩) (by assumption) ?_
  rotate_left
  · intro w hSw
    go_simp
    try with_reducible rfl
  simp only [Act.put, List.setIfInBounds_toArray, List.set_cons_zero, List.set_cons_succ, List.getElem_toArray, List.getElem_cons_succ, List.getElem_cons_zero]
  refine wpAnyH_take (i := 9) (v := ?_) rfl (by kernel_rfl) (by kernel_rfl) (by kernel_rfl) (fun _ _ _ h => h) (Or.inl ⟨by kernel_rfl, ?_⟩) (by assumption) ?_
  rotate_left
  · intro w hSw
    go_simp
    try with_reducible rfl
  simp only [Act.put, List.setIfInBounds_toArray, List.set_cons_zero, List.set_cons_succ, List.getElem_toArray, List.getElem_cons_succ, List.getElem_cons_zero]
  refine wpAnyH_take (i := 10) (v := ?_) rfl (by kernel_rfl) (by kernel_rfl) (by kernel_rfl) (fun _ _ _ h => h) (Or.inl ⟨by kernel_rfl, ?_⟩) (by assumption) ?_
  rotate_left
  · intro w hSw
    go_simp
    try with_reducible rfl
  simp only [Act.put, List.setIfInBounds_toArray, List.set_cons_zero, List.set_cons_succ, List.getElem_toArray, List.getElem_cons_succ, List.getElem_cons_zero]
  refine wpAnyH_done (by kernel_rfl) ?_ _
  refine NoPanic.normal ?_
  have HS1 := Lib.hid hHeld
  clear HS hHeld
  have cc := HS1.out.c0 hn
  have wl : IntKind.i64.wrap 4 = 4 := by decide +kernel
  have mx : mxI (4 + x0 * 8) = 4 + x0 * 8 := by unfold mxI; omega
  go_upto_region 8 with (go_at_call 26; refine (rmem_any _ _ _).mono ?_; rintro e w3 ⟨rfl, hb3⟩; have HS3 := Lib.hid (HS1.out.below hb3); clear hb3 cc)
  have HO := Lib.hid (RO.mk HS3.out 2 0 (4 + x0 * 8) (-1) 1 0 false 0)
  clear HS3 HS1
  generalize World.alloc w3 _ = V3 at *
  generalize w3.heap.size = b3 at *
  obtain ⟨c0, c1, c2, c3, c4, c5, c6, c7⟩ := HO.out.2.1.c
  obtain ⟨f0, f1, f2, f3, f4, f5, f6, f7⟩ := HO.out.2.1.f
  have cc1 := HO.out.c1 (by omega)
  go_upto_region 18 with fail
  have HO3 := Lib.hid (HO.out.setB (lo1 + x0 * 8))
  clear HO c0 c1 c2 c3 c4 c5 c6 c7 f0 f1 f2 f3 f4 f5 f6 f7
  try clear cc1
  generalize World.setCell V3 _ _ = V4 at *
  have HO := Lib.hid HO3.out
  clear HO3
  obtain ⟨c0, c1, c2, c3, c4, c5, c6, c7⟩ := HO.out.2.1.c
  obtain ⟨f0, f1, f2, f3, f4, f5, f6, f7⟩ := HO.out.2.1.f
  have cc1 := HO.out.c1 (by omega)
  obtain ⟨_, _, _, _, _, _, _, _, h8⟩ := HO.out.fro
  obtain ⟨e0, e1, e2', e3', e4', e5', e6', e7'⟩ := h8.c
  obtain ⟨g0, g1, g2, g3, g4, g5, g6, g7⟩ := h8.f
  clear h8
  go_wp2_with (go_at_call 45; refine (rnum_few _ _ _ _ _ (by omega)).mono ?_; rintro e w5 ⟨rfl, rfl⟩)
  all_goals
    have HF := Lib.hid (HO.out.put 0 0 0 0 0 0 false 0).2
    unfold put8 at HF
    clear HO e0 e1 e2' e3' e4' e5' e6' e7' g0 g1 g2 g3 g4 g5 g6 g7
    generalize World.setCell (World.setCell (World.setCell (World.setCell (World.setCell (World.setCell (World.setCell (World.setCell _ _ _) _ _) _ _) _ _) _ _) _ _) _ _) _ _ = W4 at *
    obtain ⟨c0, c1, c2, c3, c4, c5, c6, c7⟩ := HF.out.1.c
    exact bodyPost_ret (v := .tuple #[.int .i64 0, ov 0 0 0 0 0 0 false 0, .int .i64 0, .int .i64 80]) (by simp [results, Tryd.results14, go_sem, *]; try rfl) rfl ⟨rfl, HF.out.2.2.2⟩
end Go.Proofs.YtkpnafgmjcnniaaDoor
