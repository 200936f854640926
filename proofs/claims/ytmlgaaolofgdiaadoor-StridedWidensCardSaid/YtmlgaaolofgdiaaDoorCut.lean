/- strided.Cut. -/
import Derived.Test.YtmlgaaolofgdiaaDoorJoin
namespace Go.Proofs.YtmlgaaolofgdiaaDoor
open Go.RowKit SM
set_option linter.unusedSimpArgs false
attribute [local go_sem ↓] Go.wp_at_zero Go.wp_at_succ
attribute [local go_sem ↓ high] eql_set neq_set run_mx run_mn
set_option maxHeartbeats 2000000 in
theorem cut_one1 (s l h : Nat) (wd : Int) (uh : U h) (ha : Rt ⟨s, l, h⟩) (hn : ((l : Int) == h) = true) (c : Nat) (hc : ∀ W, Mk W → Calls Tryd.prog 41 #[.int .u64 l, .int .i64 wd] W fun e w2 => e = .returned (.int .u64 c) ∧ W = w2) (w : World) (hm : Mk w) :
    Calls Tryd.prog 20 #[sv s l h, .int .i64 wd] w fun e w' => e = .returned (sv 0 c c) ∧ Below w.heap.size w w' := by
  have HM := Lib.hid hm
  clear hm
  have HC := Lib.hid hc
  clear hc
  have k1 := (Slot3.new w (.int .u64 (s : Int)) (.int .u64 (l : Int)) (.int .u64 (h : Int)) 24).alloc z3
  have k2 := Slot3.new (w.alloc (sb s l h)) (.int .u64 0) (.int .u64 0) (.int .u64 0) 24
  have hb0 : Below w.heap.size w ((w.alloc (sb s l h)).alloc z3) := ((Below.refl _ _).alloc (Nat.le_refl _) _).alloc (by simp) _
  simp only [World.size_alloc] at k2
  have HS := Lib.hid (mk2 k1 k2 hb0)
  clear k1 k2 hb0
  go_enter Tryd.func20, Tryd.ntmps20
  go_wp2_with fail
  go_at_call 27
  refine (held_rt _ _ _ uh ha _).mono ?_
  rintro e W ⟨rfl, hb1⟩
  replace HS := Lib.hid (keep2 hb1 HS.out (Nat.le_refl _))
  clear hb1
  obtain ⟨a0, a1, a2, a3, a4, a5, a6, b0, b1, b2, b3, b4, b5, b6, hg⟩ := HS.out
  go_wp2_with fail
  rw [put_same a0 a1 a2]
  go_at_call 28
  refine (isOne_any _ _ _ _).mono ?_
  rintro e W' ⟨rfl, hb1⟩
  replace HS := Lib.hid (keep2 hb1 HS.out (Nat.le_refl _))
  clear hb1 a0 a1 a2 a3 a4 a5 a6 b0 b1 b2 b3 b4 b5 b6 hg
  obtain ⟨a0, a1, a2, a3, a4, a5, a6, b0, b1, b2, b3, b4, b5, b6, hg⟩ := HS.out
  go_wp2_with (go_at_call 41; refine (HC.out _ (HM.out.own hg)).mono ?_; rintro e w' ⟨rfl, rfl⟩)
  go_at_call 24
  refine (one_any _ _).mono ?_
  rintro e W' ⟨rfl, hb1⟩
  replace HS := Lib.hid (keep2 hb1 HS.out (Nat.le_refl _))
  clear hb1 a0 a1 a2 a3 a4 a5 a6 b0 b1 b2 b3 b4 b5 b6 hg
  obtain ⟨a0, a1, a2, a3, a4, a5, a6, b0, b1, b2, b3, b4, b5, b6, hg⟩ := HS.out
  go_wp2_with fail
  refine bodyPost_ret (v := sv 0 c c) (by simp [results, Tryd.results20, go_sem, *]) rfl ⟨rfl, hg.trans ?_⟩
  go_grown
set_option maxHeartbeats 2000000 in
theorem cut_big (s l h : Nat) (wd : Int) (uh : U h) (ha : Rt ⟨s, l, h⟩) (hn : ((l : Int) == h) = false) (g : mN wd < h) (w : World) (hm : Mk w) :
    Calls Tryd.prog 20 #[sv s l h, .int .i64 wd] w fun e w' => e = .returned (sv 1 0 (mN wd)) ∧ Below w.heap.size w w' := by
  have HM := Lib.hid hm
  clear hm
  have g1 : (mN wd : Int) < h := by omega
  have k1 := (Slot3.new w (.int .u64 (s : Int)) (.int .u64 (l : Int)) (.int .u64 (h : Int)) 24).alloc z3
  have k2 := Slot3.new (w.alloc (sb s l h)) (.int .u64 0) (.int .u64 0) (.int .u64 0) 24
  have hb0 : Below w.heap.size w ((w.alloc (sb s l h)).alloc z3) := ((Below.refl _ _).alloc (Nat.le_refl _) _).alloc (by simp) _
  simp only [World.size_alloc] at k2
  have HS := Lib.hid (mk2 k1 k2 hb0)
  clear k1 k2 hb0
  go_enter Tryd.func20, Tryd.ntmps20
  go_wp2_with fail
  go_at_call 27
  refine (held_rt _ _ _ uh ha _).mono ?_
  rintro e W ⟨rfl, hb1⟩
  replace HS := Lib.hid (keep2 hb1 HS.out (Nat.le_refl _))
  clear hb1
  obtain ⟨a0, a1, a2, a3, a4, a5, a6, b0, b1, b2, b3, b4, b5, b6, hg⟩ := HS.out
  go_wp2_with fail
  rw [put_same a0 a1 a2]
  go_at_call 28
  refine (isOne_any _ _ _ _).mono ?_
  rintro e W' ⟨rfl, hb1⟩
  replace HS := Lib.hid (keep2 hb1 HS.out (Nat.le_refl _))
  clear hb1 a0 a1 a2 a3 a4 a5 a6 b0 b1 b2 b3 b4 b5 b6 hg
  obtain ⟨a0, a1, a2, a3, a4, a5, a6, b0, b1, b2, b3, b4, b5, b6, hg⟩ := HS.out
  go_wp2_with fail
  go_region_held3 (fun W => W.cell? ⟨w.heap.size, 0, none⟩ = some (.int .u64 (s : Int)) ∧ W.cell? ⟨w.heap.size, 1, none⟩ = some (.int .u64 (l : Int)) ∧ W.cell? ⟨w.heap.size, 2, none⟩ = some (.int .u64 (h : Int)) ∧ W.frozen? ⟨w.heap.size, 0, none⟩ = false ∧ W.frozen? ⟨w.heap.size, 1, none⟩ = false ∧ W.frozen? ⟨w.heap.size, 2, none⟩ = false ∧ w.heap.size < W.heap.size ∧ W.cell? ⟨w.heap.size + 1, 0, none⟩ = some (.int .u64 0) ∧ W.cell? ⟨w.heap.size + 1, 1, none⟩ = some (.int .u64 0) ∧ W.cell? ⟨w.heap.size + 1, 2, none⟩ = some (.int .u64 0) ∧ W.frozen? ⟨w.heap.size + 1, 0, none⟩ = false ∧ W.frozen? ⟨w.heap.size + 1, 1, none⟩ = false ∧ W.frozen? ⟨w.heap.size + 1, 2, none⟩ = false ∧ w.heap.size + 1 < W.heap.size ∧ Below w.heap.size w W)
    (first | (with_reducible assumption) | (with_reducible exact drew2 HS.out) | (with_reducible exact keep2 (by assumption) (by assumption) (Nat.le_refl _)) | fail)
    (first | (go_at_call 32; ((with_reducible refine (mask_any _ _ (HM.out.own hg.drew)).mono ?_); rintro e w1 ⟨rfl, rfl⟩)))
  clear a0 a1 a2 a3 a4 a5 a6 b0 b1 b2 b3 b4 b5 b6 hg
  rename_i hS
  refine anyW (P := fun W => W.cell? ⟨w.heap.size, 0, none⟩ = some (.int .u64 (s : Int)) ∧ W.cell? ⟨w.heap.size, 1, none⟩ = some (.int .u64 (l : Int)) ∧ W.cell? ⟨w.heap.size, 2, none⟩ = some (.int .u64 (h : Int)) ∧ W.frozen? ⟨w.heap.size, 0, none⟩ = false ∧ W.frozen? ⟨w.heap.size, 1, none⟩ = false ∧ W.frozen? ⟨w.heap.size, 2, none⟩ = false ∧ w.heap.size < W.heap.size ∧ W.cell? ⟨w.heap.size + 1, 0, none⟩ = some (.int .u64 0) ∧ W.cell? ⟨w.heap.size + 1, 1, none⟩ = some (.int .u64 0) ∧ W.cell? ⟨w.heap.size + 1, 2, none⟩ = some (.int .u64 0) ∧ W.frozen? ⟨w.heap.size + 1, 0, none⟩ = false ∧ W.frozen? ⟨w.heap.size + 1, 1, none⟩ = false ∧ W.frozen? ⟨w.heap.size + 1, 2, none⟩ = false ∧ w.heap.size + 1 < W.heap.size ∧ Below w.heap.size w W) (Q := fun W => Exit.then _ _ _ _ W) hS ?_
  clear hS HS
  intro W hS
  have HS := Lib.hid hS
  obtain ⟨a0, a1, a2, a3, a4, a5, a6, b0, b1, b2, b3, b4, b5, b6, hg⟩ := hS
  go_wp2_with fail
  go_at_call 38
  refine (all_any _ _ (HM.out.own hg)).mono ?_
  rintro e W' ⟨rfl, hb1⟩
  replace HS := Lib.hid (keep2 hb1 HS.out (Nat.le_refl _))
  clear hb1 a0 a1 a2 a3 a4 a5 a6 b0 b1 b2 b3 b4 b5 b6 hg
  obtain ⟨a0, a1, a2, a3, a4, a5, a6, b0, b1, b2, b3, b4, b5, b6, hg⟩ := HS.out
  go_wp2_with fail
  refine bodyPost_ret (v := sv 1 0 (mN wd)) (by simp [results, Tryd.results20, go_sem, *]) rfl ⟨rfl, hg.trans ?_⟩
  go_grown
set_option maxHeartbeats 2000000 in
theorem cut_as (s l h : Nat) (wd : Int) (uh : U h) (ha : Rt ⟨s, l, h⟩) (hn : ((l : Int) == h) = false) (g : ¬ mN wd < h) (w : World) (hm : Mk w) :
    Calls Tryd.prog 20 #[sv s l h, .int .i64 wd] w fun e w' => e = .returned (sv s l h) ∧ Below w.heap.size w w' := by
  have HM := Lib.hid hm
  clear hm
  have g1 : ¬ (mN wd : Int) < h := by omega
  have k1 := (Slot3.new w (.int .u64 (s : Int)) (.int .u64 (l : Int)) (.int .u64 (h : Int)) 24).alloc z3
  have k2 := Slot3.new (w.alloc (sb s l h)) (.int .u64 0) (.int .u64 0) (.int .u64 0) 24
  have hb0 : Below w.heap.size w ((w.alloc (sb s l h)).alloc z3) := ((Below.refl _ _).alloc (Nat.le_refl _) _).alloc (by simp) _
  simp only [World.size_alloc] at k2
  have HS := Lib.hid (mk2 k1 k2 hb0)
  clear k1 k2 hb0
  go_enter Tryd.func20, Tryd.ntmps20
  go_wp2_with fail
  go_at_call 27
  refine (held_rt _ _ _ uh ha _).mono ?_
  rintro e W ⟨rfl, hb1⟩
  replace HS := Lib.hid (keep2 hb1 HS.out (Nat.le_refl _))
  clear hb1
  obtain ⟨a0, a1, a2, a3, a4, a5, a6, b0, b1, b2, b3, b4, b5, b6, hg⟩ := HS.out
  go_wp2_with fail
  rw [put_same a0 a1 a2]
  go_at_call 28
  refine (isOne_any _ _ _ _).mono ?_
  rintro e W' ⟨rfl, hb1⟩
  replace HS := Lib.hid (keep2 hb1 HS.out (Nat.le_refl _))
  clear hb1 a0 a1 a2 a3 a4 a5 a6 b0 b1 b2 b3 b4 b5 b6 hg
  obtain ⟨a0, a1, a2, a3, a4, a5, a6, b0, b1, b2, b3, b4, b5, b6, hg⟩ := HS.out
  go_wp2_with fail
  go_region_held3 (fun W => W.cell? ⟨w.heap.size, 0, none⟩ = some (.int .u64 (s : Int)) ∧ W.cell? ⟨w.heap.size, 1, none⟩ = some (.int .u64 (l : Int)) ∧ W.cell? ⟨w.heap.size, 2, none⟩ = some (.int .u64 (h : Int)) ∧ W.frozen? ⟨w.heap.size, 0, none⟩ = false ∧ W.frozen? ⟨w.heap.size, 1, none⟩ = false ∧ W.frozen? ⟨w.heap.size, 2, none⟩ = false ∧ w.heap.size < W.heap.size ∧ W.cell? ⟨w.heap.size + 1, 0, none⟩ = some (.int .u64 0) ∧ W.cell? ⟨w.heap.size + 1, 1, none⟩ = some (.int .u64 0) ∧ W.cell? ⟨w.heap.size + 1, 2, none⟩ = some (.int .u64 0) ∧ W.frozen? ⟨w.heap.size + 1, 0, none⟩ = false ∧ W.frozen? ⟨w.heap.size + 1, 1, none⟩ = false ∧ W.frozen? ⟨w.heap.size + 1, 2, none⟩ = false ∧ w.heap.size + 1 < W.heap.size ∧ Below w.heap.size w W)
    (first | (with_reducible assumption) | (with_reducible exact drew2 HS.out) | (with_reducible exact keep2 (by assumption) (by assumption) (Nat.le_refl _)) | fail)
    (first | (go_at_call 32; ((with_reducible refine (mask_any _ _ (HM.out.own hg.drew)).mono ?_); rintro e w1 ⟨rfl, rfl⟩)))
  clear a0 a1 a2 a3 a4 a5 a6 b0 b1 b2 b3 b4 b5 b6 hg
  rename_i hS
  refine anyW (P := fun W => W.cell? ⟨w.heap.size, 0, none⟩ = some (.int .u64 (s : Int)) ∧ W.cell? ⟨w.heap.size, 1, none⟩ = some (.int .u64 (l : Int)) ∧ W.cell? ⟨w.heap.size, 2, none⟩ = some (.int .u64 (h : Int)) ∧ W.frozen? ⟨w.heap.size, 0, none⟩ = false ∧ W.frozen? ⟨w.heap.size, 1, none⟩ = false ∧ W.frozen? ⟨w.heap.size, 2, none⟩ = false ∧ w.heap.size < W.heap.size ∧ W.cell? ⟨w.heap.size + 1, 0, none⟩ = some (.int .u64 0) ∧ W.cell? ⟨w.heap.size + 1, 1, none⟩ = some (.int .u64 0) ∧ W.cell? ⟨w.heap.size + 1, 2, none⟩ = some (.int .u64 0) ∧ W.frozen? ⟨w.heap.size + 1, 0, none⟩ = false ∧ W.frozen? ⟨w.heap.size + 1, 1, none⟩ = false ∧ W.frozen? ⟨w.heap.size + 1, 2, none⟩ = false ∧ w.heap.size + 1 < W.heap.size ∧ Below w.heap.size w W) (Q := fun W => Exit.then _ _ _ _ W) hS ?_
  clear hS HS
  intro W hS
  have HS := Lib.hid hS
  obtain ⟨a0, a1, a2, a3, a4, a5, a6, b0, b1, b2, b3, b4, b5, b6, hg⟩ := hS
  go_wp2_with fail
  refine bodyPost_ret (v := sv s l h) (by simp [results, Tryd.results20, go_sem, *]) rfl ⟨rfl, hg.trans ?_⟩
  go_grown
theorem cut_any (s l h : Nat) (wd : Int) (ul : U l) (uh : U h) (ha : Rt ⟨s, l, h⟩) (w : World) (hm : Mk w) :
    Calls Tryd.prog 20 #[sv s l h, .int .i64 wd] w fun e w' => e = .returned (stv (cutS (mN wd) ⟨s, l, h⟩)) ∧ Below w.heap.size w w' := by
  unfold cutS
  dsimp only
  by_cases hn : l = h
  · rw [if_pos hn]; exact cut_one1 s l h wd uh ha (by simp [hn]) _ (fun W hW => bcut_any l ul wd W hW) w hm
  · rw [if_neg hn]
    have hn' : ((l : Int) == h) = false := by simp; omega
    by_cases g : mN wd < h
    · rw [if_pos g]; exact cut_big s l h wd uh ha hn' g w hm
    · rw [if_neg g]; exact cut_as s l h wd uh ha hn' g w hm
end Go.Proofs.YtmlgaaolofgdiaaDoor
